/- Contracts of package box: the exported functions but Hit. Iterators wh -/
import Derived.Test.YtbmpmjdlaahekaaGreatWs20
import Derived.Test.YtbmpmjdlaahekaaGreatWs27
set_option maxRecDepth 100000
set_option maxHeartbeats 8000000
set_option linter.unusedVariables false
set_option linter.unusedSimpArgs false
open Go.Proofs.Tryz
namespace Go.Proofs.YtbmpmjdlaahekaaGreat
section
open Go.RowKit Go.Proofs.Sky
theorem vsub_in {x a : Int} (h : -4194304 ≤ x ∧ x ≤ 4194304) (g : -4194304 ≤ a ∧ a ≤ 4194304) : vsub x a = x - a := by
 unfold vsub sat
 (repeat' split) <;> omega
theorem mul_in {x y : Int} (hx : 0 ≤ x ∧ x ≤ 2097152) (hy : 0 ≤ y ∧ y ≤ 2097152) : 0 ≤ x * y ∧ x * y ≤ 4398046511104 := by
 have a := Int.mul_nonneg hx.1 hy.1
 have b := Int.mul_le_mul hx.2 hy.2 hy.1 (by omega)
 omega
theorem box_Right_lo (a1 a2 a3 a4 a5 a6 : Int) (w : World) (h1 : vnear a1 a2 a3 = false) :
  Rt prog 60 #[.agg #[a1, a2, a3, a4, a5, a6]] w (.bool false) := by
 have KN1 := zh (fun w => z0o a1 a2 a3 w)
 rw [h1] at KN1
 clear h1
 go_enter func60, ntmps60
 go_upto_region 1 with (fail)
 refine wst1 fun W1 kb B1 => ?_
 have cb := bwc6 kb
 refine bws fun p1 => ?_
 refine z03 (by kernel_rfl) (by kernel_rfl) ?_
 repeat (go_big_quiet_step ((go_at_call 61; (with_reducible exact z02 KN1.out _))))
 refine wpQuiet_nil ?_
 intro _ hw'
 obtain ⟨q, rfl⟩ := hw'
 go_wp2
 go_ret
 exact ⟨rfl, z00 B1 _⟩
theorem box_Right_hi (a1 a2 a3 a4 a5 a6 : Int) (w : World) (h1 : vnear a1 a2 a3 = true) (h2 : vnear a4 a5 a6 = false) :
  Rt prog 60 #[.agg #[a1, a2, a3, a4, a5, a6]] w (.bool false) := by
 have KN1 := zh (fun w => z0o a1 a2 a3 w)
 rw [h1] at KN1
 have KN2 := zh (fun w => z0o a4 a5 a6 w)
 rw [h2] at KN2
 clear h1 h2
 go_enter func60, ntmps60
 go_upto_region 1 with (fail)
 refine wst1 fun W1 kb B1 => ?_
 have cb := bwc6 kb
 refine bws fun p1 => ?_
 refine z03 (by kernel_rfl) (by kernel_rfl) ?_
 repeat (go_big_quiet_step ((go_at_call 61; (first | (with_reducible exact z02 KN1.out _) | (with_reducible exact z02 KN2.out _)))))
 refine wpQuiet_nil ?_
 intro _ hw'
 obtain ⟨q, rfl⟩ := hw'
 go_wp2
 go_ret
 exact ⟨rfl, z00 B1 _⟩
theorem box_Right_x (a1 a2 a3 a4 a5 a6 : Int) (w : World) (h1 : vnear a1 a2 a3 = true) (h2 : vnear a4 a5 a6 = true) (e1 : ¬ min a1 a4 = a1) :
  Rt prog 60 #[.agg #[a1, a2, a3, a4, a5, a6]] w (.bool false) := by
 have KN1 := zh (fun w => z0o a1 a2 a3 w)
 rw [h1] at KN1
 have KN2 := zh (fun w => z0o a4 a5 a6 w)
 rw [h2] at KN2
 have KL := zh (fun w => box_lowest a1 a2 a3 a4 a5 a6 w)
 generalize min a1 a4 = m1 at *
 generalize min a2 a5 = m2 at *
 generalize min a3 a6 = m3 at *
 clear h1 h2
 go_enter func60, ntmps60
 go_upto_region 1 with (fail)
 refine wst1 fun W1 kb B1 => ?_
 have cb := bwc6 kb
 refine bws fun p1 => ?_
 refine z03 (by kernel_rfl) (by kernel_rfl) ?_
 repeat (go_big_quiet_step (first
  | (go_at_call 61; (first | (with_reducible exact z02 KN1.out _) | (with_reducible exact z02 KN2.out _)))
  | (go_at_call 96; (with_reducible exact z02 KL.out _))))
 refine wpQuiet_nil ?_
 intro _ hw'
 obtain ⟨q, rfl⟩ := hw'
 go_wp2
 go_ret
 exact ⟨rfl, z00 B1 _⟩
theorem box_Right_y (a1 a2 a3 a4 a5 a6 : Int) (w : World) (h1 : vnear a1 a2 a3 = true) (h2 : vnear a4 a5 a6 = true) (e1 : min a1 a4 = a1) (e2 : ¬ min a2 a5 = a2) :
  Rt prog 60 #[.agg #[a1, a2, a3, a4, a5, a6]] w (.bool false) := by
 have KN1 := zh (fun w => z0o a1 a2 a3 w)
 rw [h1] at KN1
 have KN2 := zh (fun w => z0o a4 a5 a6 w)
 rw [h2] at KN2
 have KL := zh (fun w => box_lowest a1 a2 a3 a4 a5 a6 w)
 rw [e1] at KL
 generalize min a2 a5 = m2 at *
 generalize min a3 a6 = m3 at *
 clear e1
 clear h1 h2
 go_enter func60, ntmps60
 go_upto_region 1 with (fail)
 refine wst1 fun W1 kb B1 => ?_
 have cb := bwc6 kb
 refine bws fun p1 => ?_
 refine z03 (by kernel_rfl) (by kernel_rfl) ?_
 repeat (go_big_quiet_step (first
  | (go_at_call 61; (first | (with_reducible exact z02 KN1.out _) | (with_reducible exact z02 KN2.out _)))
  | (go_at_call 96; (with_reducible exact z02 KL.out _))))
 refine wpQuiet_nil ?_
 intro _ hw'
 obtain ⟨q, rfl⟩ := hw'
 go_wp2
 go_ret
 exact ⟨rfl, z00 B1 _⟩
theorem box_Right_z (a1 a2 a3 a4 a5 a6 : Int) (w : World) (h1 : vnear a1 a2 a3 = true) (h2 : vnear a4 a5 a6 = true) (e1 : min a1 a4 = a1) (e2 : min a2 a5 = a2) (e3 : ¬ min a3 a6 = a3) :
  Rt prog 60 #[.agg #[a1, a2, a3, a4, a5, a6]] w (.bool false) := by
 have KN1 := zh (fun w => z0o a1 a2 a3 w)
 rw [h1] at KN1
 have KN2 := zh (fun w => z0o a4 a5 a6 w)
 rw [h2] at KN2
 have KL := zh (fun w => box_lowest a1 a2 a3 a4 a5 a6 w)
 rw [e1] at KL
 rw [e2] at KL
 generalize min a3 a6 = m3 at *
 clear e1 e2
 clear h1 h2
 go_enter func60, ntmps60
 go_upto_region 1 with (fail)
 refine wst1 fun W1 kb B1 => ?_
 have cb := bwc6 kb
 refine bws fun p1 => ?_
 refine z03 (by kernel_rfl) (by kernel_rfl) ?_
 repeat (go_big_quiet_step (first
  | (go_at_call 61; (first | (with_reducible exact z02 KN1.out _) | (with_reducible exact z02 KN2.out _)))
  | (go_at_call 96; (with_reducible exact z02 KL.out _))))
 refine wpQuiet_nil ?_
 intro _ hw'
 obtain ⟨q, rfl⟩ := hw'
 go_wp2
 go_ret
 exact ⟨rfl, z00 B1 _⟩
theorem box_Right_all (a1 a2 a3 a4 a5 a6 : Int) (w : World) (h1 : vnear a1 a2 a3 = true) (h2 : vnear a4 a5 a6 = true) (e1 : min a1 a4 = a1) (e2 : min a2 a5 = a2) (e3 : min a3 a6 = a3) :
  Rt prog 60 #[.agg #[a1, a2, a3, a4, a5, a6]] w (.bool true) := by
 have KN1 := zh (fun w => z0o a1 a2 a3 w)
 rw [h1] at KN1
 have KN2 := zh (fun w => z0o a4 a5 a6 w)
 rw [h2] at KN2
 have KL := zh (fun w => box_lowest a1 a2 a3 a4 a5 a6 w)
 rw [e1] at KL
 rw [e2] at KL
 rw [e3] at KL
 clear e1 e2 e3
 clear h1 h2
 go_enter func60, ntmps60
 go_upto_region 1 with (fail)
 refine wst1 fun W1 kb B1 => ?_
 have cb := bwc6 kb
 refine bws fun p1 => ?_
 refine z03 (by kernel_rfl) (by kernel_rfl) ?_
 repeat (go_big_quiet_step (first
  | (go_at_call 61; (first | (with_reducible exact z02 KN1.out _) | (with_reducible exact z02 KN2.out _)))
  | (go_at_call 96; (with_reducible exact z02 KL.out _))))
 refine wpQuiet_nil ?_
 intro _ hw'
 obtain ⟨q, rfl⟩ := hw'
 go_wp2
 go_ret
 exact ⟨rfl, z00 B1 _⟩
theorem box_Right (a1 a2 a3 a4 a5 a6 : Int) (w : World) :
  Rt prog 60 #[.agg #[a1, a2, a3, a4, a5, a6]] w (.bool (bRight ((a1, a2, a3), (a4, a5, a6)))) := by
 unfold bRight nrT
 dsimp only
 cases h1 : vnear a1 a2 a3 with
 | false => exact box_Right_lo a1 a2 a3 a4 a5 a6 w h1
 | true =>
  cases h2 : vnear a4 a5 a6 with
  | false => exact box_Right_hi a1 a2 a3 a4 a5 a6 w h1 h2
  | true =>
   rw [Bool.true_and, Bool.true_and]
   by_cases e1 : min a1 a4 = a1
   · by_cases e2 : min a2 a5 = a2
     · by_cases e3 : min a3 a6 = a3
       · rw [zt (by omega)]; exact box_Right_all a1 a2 a3 a4 a5 a6 w h1 h2 e1 e2 e3
       · rw [zf (by omega)]; exact box_Right_z a1 a2 a3 a4 a5 a6 w h1 h2 e1 e2 e3
     · rw [zf (by omega)]; exact box_Right_y a1 a2 a3 a4 a5 a6 w h1 h2 e1 e2
   · rw [zf (by omega)]; exact box_Right_x a1 a2 a3 a4 a5 a6 w h1 h2 e1
end
end Go.Proofs.YtbmpmjdlaahekaaGreat
namespace Go.Proofs.Sky
section
section
open Go.RowKit
def Solid {β : Type} (B : Nat) (J : β → World → Prop) : Prop := ∀ s X Y, J s X → Below B X Y → J s Y
theorem Solid.and {β : Type} {B : Nat} {I J : β → World → Prop} (h : Solid B I) (g : Solid B J) : Solid B (fun s W => I s W ∧ J s W) := fun s X Y k hb => ⟨h s X Y k.1 hb, g s X Y k.2 hb⟩
theorem Solid.mono {β : Type} {B C : Nat} {I : β → World → Prop} (h : Solid B I) (hC : B ≤ C) : Solid C I := fun s X Y k hb => h s X Y k (hb.mono hC)
theorem solid_pure {β : Type} {B : Nat} (p : β → Prop) : Solid B (fun s (_ : World) => p s) := fun _ _ _ h _ => h
theorem solid_below {β : Type} {n B : Nat} {w : World} (hB : n ≤ B) : Solid B (fun (_ : β) W => Below n w W) := fun _ _ _ h hb => h.trans (hb.mono hB)
theorem solid_bk {β : Type} {B : Nat} (g : β → Nat) (t : β → TypeId) (cs : β → Array Value) (hg : ∀ s, g s < B) : Solid B (fun s W => Bk W (g s) (t s) (cs s)) := fun s X Y h hb => (hb.block _ (hg s)).trans h
theorem solid_at {β : Type} {B k : Nat} {o : Obj} (hk : k < B) : Solid B (fun (_ : β) W => W.heap[k]? = some o) := fun _ _ _ h hb => (hb.block k hk).trans h
theorem z1g {B l : Nat} {W : World} {o : Obj} (h : B ≤ l) : Below B W (W.putObj l o) := ⟨rfl, rfl, rfl, by simp, fun k hk => World.putObj_heap_other (by omega)⟩
theorem z0s {B : Nat} {W : World} (o : Obj) (h : B ≤ W.heap.size) : Below B W (W.alloc o) := (Below.refl _ _).alloc h o
def GivesBy {σ α : Type} (P : Program) (gf : Nat) (lb : Array Value) (encs : α → Array Value) (Rq : σ → World → Prop) (Nx : σ → α → World → Prop) (st : σ → α → σ) (Fn : σ → Prop) (s0 : σ) : Prop :=
 ∀ (l : Nat) (J : σ → World → Prop) (Jx : World → Prop) (W : World), Solid W.heap.size J → Solid W.heap.size (fun _ : Unit => Jx) → (∀ s X, J s X → Rq s X) →
  (∀ s x W1, Nx s x W1 → J s W1 → YieldAt Fence.wide 0 P l (encs x) W1 fun e W' => KeepsBut W.heap.size none W1 W' ∧ ((e = .returned (.bool true) ∧ J (st s x) W') ∨ (e = .returned (.bool false) ∧ Jx W'))) →
  J s0 W → CallsIn Fence.wide 0 P gf (#[.func (.yield l) #[] #[]] ++ lb) W fun e W' => (∃ v, e = .returned v) ∧ ((∃ s, Fn s ∧ J s W') ∨ Jx W')
def stopsBy {σ : Type} (B0 : Nat) (I : σ → World → Prop) (Ix : Code → World → Prop) (s : σ) (W : World) : Exit → Act → World → Prop
 | .normal, _, W' => KeepsBut B0 none W W' ∧ I s W'
 | .ret, _, W' => KeepsBut B0 none W W' ∧ Ix .ret W'
 | .exit id, _, W' => KeepsBut B0 none W W' ∧ Ix (.exit id) W'
 | .goto t, _, W' => KeepsBut B0 none W W' ∧ Ix (.goto t) W'
 | _, _, _ => False
theorem stopsBy_from {σ : Type} {F : Fence} {m : Nat} {P : Program} {c : Code} {a : Act} {B0 : Nat} {I : σ → World → Prop} {Ix : Code → World → Prop} {s : σ} {V V0 : World} (h : V0 = V)
  (hc : c.wpIn F m P (stopsBy B0 I Ix s V0) a V) : c.wpIn F m P (stopsBy B0 I Ix s V) a V := by subst h; exact hc
theorem range_by {σ α : Type} {P : Program} {g : Operand} {ps : Array Tmp} {assign body : Code} {Q : Exit → Act → World → Prop} {a : Act} {w : World} {gf : Nat} {lb : Array Value} {encs : α → Array Value} {Rq : σ → World → Prop} {Nx : σ → α → World → Prop} {st : σ → α → σ} {Fn : σ → Prop} {s0 : σ}
  (hg : a.eval g = .func (.func gf) #[] lb) (eg : ∀ args w, (callFunc gf args).run P w = .ok (.enter gf args) w) (hc : GivesBy P gf lb encs Rq Nx st Fn s0) (hps : ∀ x, (encs x).size = ps.size)
  (I : σ → World → Prop) (Ix : Code → World → Prop) (hI : Solid w.heap.size I) (hIx : Solid w.heap.size Ix) (hR : ∀ s W, I s W → Rq s W) (h0 : I s0 w)
  (hround : ∀ (l : Nat) (s : σ) (x : α) (W : World), w.heap.size < l → Nx s x W → I s W →
   assign.wpIn (Fence.wide.inRound l) 0 P (Exit.then (fun a' V => KeepsBut w.heap.size none W V ∧ ∀ r r', V.heap[l]? = some (.loop r) →
    body.wpIn (Fence.wide.inRound l) 0 P (stopsBy w.heap.size I Ix (st s x) (V.putObj l (.loop r'))) a' (V.putObj l (.loop r'))) (fun _ _ _ => False))
    { tmps := (ps.zip (encs x)).foldl (fun t (p, v) => t.setIfInBounds p v) a.tmps, defers := [] } W)
  (hdone : ∀ (D : Nat) (s : σ) (W : World), w.heap.size ≤ D → Fn s → I s W → W.heap[D]? = some (.deferred (some [])) → Q .normal { a with defers := { target := .collected D, args := #[] } :: a.defers } W)
  (hstop : ∀ (D : Nat) (c : Code) (W : World), w.heap.size ≤ D → Ix c W → W.heap[D]? = some (.deferred (some [])) → c.wpIn Fence.wide 0 P Q { a with defers := { target := .collected D, args := #[] } :: a.defers } W) :
  (Code.rangeFunc g ps assign body).wpIn Fence.wide 0 P Q a w := by
 refine wpIn_rangeFunc fun fn hfn => ?_
 let R : LoopState → Option Code → Loop := fun st pe => { state := st, pending := pe, fn, tmps := a.tmps, params := ps, assign, body, defers := w.heap.size }
 let W0 := (w.alloc (.deferred (some []))).alloc (.loop (R .ready none))
 have s0' : W0.heap.size = w.heap.size + 2 := by simp [W0]
 have l0 : W0.heap[w.heap.size + 1]? = some (.loop (R .ready none)) := by
  have := World.alloc_heap_new (w.alloc (.deferred (some []))) (.loop (R .ready none))
  rwa [World.size_alloc] at this
 have d0 : W0.heap[w.heap.size]? = some (.deferred (some [])) := (Below.heap_alloc _ _ _ (by simp)).trans (World.alloc_heap_new w _)
 have b0 : Below w.heap.size w W0 := ((Below.refl _ _).alloc (Nat.le_refl _) _).alloc (by simp) _
 refine ⟨w.heap.size + 1, [{ target := .collected w.heap.size, args := #[] }], W0, { target := .fn (.func gf) lb, args := #[.func (.yield (w.heap.size + 1)) #[] #[]] }, W0, gf,
  #[.func (.yield (w.heap.size + 1)) #[] #[]] ++ lb, W0, run_enterLoop_outer _ _ _ _ _, ?_, fun _ _ => trivial, ?_, (fun h => by cases h), ?_⟩
 · simp only [resolve, hg]
   simp [go_sem]
 · simp [invoke, go_sem, eg]
 let J : σ → World → Prop := fun s W => I s W ∧ W.heap[w.heap.size + 1]? = some (.loop (R .ready none)) ∧ W.heap[w.heap.size]? = some (.deferred (some []))
 let Jx : World → Prop := fun W => ∃ c, Ix c W ∧ W.heap[w.heap.size + 1]? = some (.loop (R .done (some c))) ∧ W.heap[w.heap.size]? = some (.deferred (some []))
 have hJ : Solid W0.heap.size J := Solid.and (hI.mono (by omega)) (Solid.and (solid_at (by omega)) (solid_at (by omega)))
 have hJx : Solid W0.heap.size (fun _ : Unit => Jx) := fun _ X Y ⟨c, i, hl, hd⟩ hb => ⟨c, hIx.mono (show w.heap.size ≤ W0.heap.size by omega) c X Y i hb, (hb.block _ (by omega)).trans hl, (hb.block _ (by omega)).trans hd⟩
 refine (hc (w.heap.size + 1) J Jx W0 hJ hJx (fun s W h => hR s W h.1) ?_ ⟨hI _ _ _ h0 b0, l0, d0⟩).mono ?_
 · rintro s x W hx ⟨hi, hl, hd⟩
   have hlt := (Array.getElem?_eq_some_iff.1 hl).1
   refine ⟨fn, _, assign, body, run_yield (P := P) (args := encs x) hl (hps x), roundIn_of_wpIn hfn (wpIn_mono (hround _ s x W (Nat.lt_succ_self _) hx hi) ?_)⟩
   intro e1 a' V hV
   cases e1 with
   | exit id => exact hV.elim
   | goto t => exact hV.elim
   | ret => exact hV.elim
   | panic ch => exact hV.elim
   | outgrown => exact hV.elim
   | normal =>
   obtain ⟨hkV, hbody⟩ := hV
   have hlV := hkV.2 _ _ (by omega) (fun e => by cases e) hl
   have hdV := hkV.2 _ _ (Nat.le_refl _) (fun e => by cases e) hd
   refine ⟨_, run_beginRound hlV rfl, ?_⟩
   have hl1 : (V.putObj (w.heap.size + 1) (.loop (R .busy none))).heap[w.heap.size + 1]? = some (.loop (R .busy none)) := World.putObj_heap_same (Array.getElem?_eq_some_iff.1 hlV).1
   have hd1 : (V.putObj (w.heap.size + 1) (.loop (R .busy none))).heap[w.heap.size]? = some (.deferred (some [])) := (World.putObj_heap_other (by omega)).trans hdV
   refine wpIn_mono (hbody _ (R .busy none) hlV) ?_
   have all : ∀ (o : Obj) (W3 : World), KeepsBut w.heap.size none (V.putObj (w.heap.size + 1) (.loop (R .busy none))) W3 → KeepsBut W0.heap.size none W (W3.putObj (w.heap.size + 1) o) := fun o W3 hk =>
    ⟨by have h1 := hkV.1; have h2 := hk.1; simp at h2 ⊢; omega, fun k ob hk0 hkb hob => by
     rw [World.putObj_heap_other (by omega)]
     refine hk.2 k ob (by omega) hkb ?_
     rw [World.putObj_heap_other (by omega)]
     exact hkV.2 k ob (by omega) hkb hob⟩
   have fin : ∀ (jump : Code) (W3 : World), KeepsBut w.heap.size none (V.putObj (w.heap.size + 1) (.loop (R .busy none))) W3 → Ix jump W3 →
     ∃ v W4, (Instr.endRound (w.heap.size + 1) (some jump)).run P W3 = .ok v W4 ∧ KeepsBut W0.heap.size none W W4 ∧ ((Ending.returned v = .returned (.bool true) ∧ J (st s x) W4) ∨ (Ending.returned v = .returned (.bool false) ∧ Jx W4)) := fun jump W3 hk hi3 => by
    have hl3 := hk.2 _ _ (by omega) (fun e => by cases e) hl1
    have hd3 := hk.2 _ _ (Nat.le_refl _) (fun e => by cases e) hd1
    exact ⟨_, _, run_endRound (P := P) (some jump) hl3, all _ _ hk, .inr ⟨rfl, jump, hIx _ _ _ hi3 (z1g (by omega)), World.putObj_heap_same (Array.getElem?_eq_some_iff.1 hl3).1, (World.putObj_heap_other (by omega)).trans hd3⟩⟩
   rintro e a3 W3 hp
   cases e with
   | normal =>
    obtain ⟨hk, hi3⟩ := hp
    have hl3 := hk.2 _ _ (by omega) (fun e => by cases e) hl1
    have hd3 := hk.2 _ _ (Nat.le_refl _) (fun e => by cases e) hd1
    exact ⟨_, _, run_endRound (P := P) none hl3, all _ _ hk, .inl ⟨rfl, hI _ _ _ hi3 (z1g (by omega)), World.putObj_heap_same (Array.getElem?_eq_some_iff.1 hl3).1, (World.putObj_heap_other (by omega)).trans hd3⟩⟩
   | ret => obtain ⟨hk, hi3⟩ := hp; exact fin .ret W3 hk hi3
   | exit id => obtain ⟨hk, hi3⟩ := hp; exact fin (.exit id) W3 hk hi3
   | goto t => obtain ⟨hk, hi3⟩ := hp; exact fin (.goto t) W3 hk hi3
   | panic ch => exact hp.elim
   | outgrown => exact hp.elim
 · rintro e W2 ⟨⟨v, rfl⟩, (⟨s, hf, hi, hl, hd⟩ | ⟨c, hi, hl, hd⟩)⟩
   · exact ⟨none, _, run_endLoop (P := P) hl (by simp [R]), hdone _ s _ (Nat.le_refl _) hf (hI _ _ _ hi (z1g (by omega))) ((World.putObj_heap_other (by omega)).trans hd)⟩
   · exact ⟨some c, _, run_endLoop (P := P) hl (by simp [R]), hstop _ c _ (Nat.le_refl _) (hIx _ _ _ hi (z1g (by omega))) ((World.putObj_heap_other (by omega)).trans hd)⟩
end
end
end Go.Proofs.Sky
