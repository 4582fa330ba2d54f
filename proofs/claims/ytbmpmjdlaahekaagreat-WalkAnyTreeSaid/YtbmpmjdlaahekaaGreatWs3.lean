/- Worlds in which all that lay in a first one lies unturned: one class f -/
import Derived.Below
import Derived.BigQuiet
import Derived.StillTail
import Derived.Deep.Quiet
import Derived.Test.YtbmpmjdlaahekaaGreatWs2
set_option maxRecDepth 100000
set_option maxHeartbeats 8000000
set_option linter.unusedVariables false
set_option linter.unusedSimpArgs false
namespace Go.Proofs.Sky
section
section
open Go.RowKit
structure BW (wb : World) where
 w : World
 h : Below wb.heap.size wb w
def BW.start (wb : World) : BW wb := ⟨wb, Below.refl _ _⟩
instance bwNonempty (wb : World) : Nonempty (BW wb) := ⟨BW.start wb⟩
def BW.next {wb : World} (p : BW wb) (w : World) (h : Below p.w.heap.size p.w w) : BW wb := ⟨w, p.h.trans (h.mono p.h.size)⟩
theorem z01 {wb : World} {a : Addr} {v : Value} (h : wb.cell? a = some v) (p : BW wb) : p.w.cell? a = some v :=
 (p.h.cell (World.block_lt_of_cell? wb a h)).trans h
theorem z02 {P : Program} {f : FuncId} {args : Array Value} {v : Value} {wb : World} (h : ∀ w, Calls P f args w fun e w' => e = .returned v ∧ Below w.heap.size w w') (p : BW wb) :
  Calls P f args p.w fun e w' => e = .returned v ∧ ∃ q : BW wb, w' = q.w :=
 (h p.w).mono fun e w' ⟨he, hb⟩ => ⟨he, p.next w' hb, rfl⟩
theorem z00 {w wb : World} (h : Below w.heap.size w wb) (p : BW wb) : Below w.heap.size w p.w := h.trans (p.h.mono h.size)
theorem bwB {w W : World} {A : Addr} {v : Value} (B : Below w.heap.size w W) (x : w.cell? A = some v) (h : A.block < w.heap.size) : ∀ p : BW W, p.w.cell? A = some v := z01 ((B.cell h).trans x)
theorem bwC {w W V : World} {A : Addr} {v : Value} (C : Below W.heap.size W V) (B : Below w.heap.size w W) (x : w.cell? A = some v) (h : A.block < w.heap.size) : ∀ p : BW V, p.w.cell? A = some v := z01 ((C.cell (zl h B.size)).trans ((B.cell h).trans x))
theorem bwA {w W V : World} {o : Obj} (p : BW W) (h : V = p.w.alloc o) (B : Below w.heap.size w W) : Below w.heap.size w V := by rw [h]; exact (z00 B p).alloc (z00 B p).size _
theorem bwx (W : World) : ∃ p : BW W, p.w = W := ⟨BW.start W, rfl⟩
theorem bws {P : Program} {c : Code} {Q : Exit → Act → World → Prop} {a : Act} {W : World} (h : ∀ p : BW W, c.wp P Q a p.w) : c.wp P Q a W := h (BW.start W)
theorem bwsL {P : Program} {ops : Array Oper} {Q : Exit → Act → World → Prop} {rest : List Oper} {a : Act} {W : World} (h : ∀ p : BW W, wpList P ops Q rest a p.w) : wpList P ops Q rest a W := h (BW.start W)
theorem z03 {P : Program} {id : Nat} {Q : Exit → Act → World → Prop} {a : Act} {wb : World} {p : BW wb} {l : List Oper} (hm : P.follows .mixedOrders = true) (hB : Region.lexB .any l.toArray = true)
  (h : wpQuiet P l.toArray (fun w' => ∃ q : BW wb, w' = q.w) (fun a' => ∀ w', (∃ q : BW wb, w' = q.w) → Q .normal a' w') l a) : (Code.region id l.toArray true).wp P Q a p.w :=
 wp_region_quiet (C := fun w' => ∃ q : BW wb, w' = q.w) hm hB ⟨p.next { p.w with drawn := p.w.drawn + 1 } ⟨rfl, rfl, rfl, Nat.le_refl _, fun _ _ => rfl⟩, rfl⟩ (by simpa using h)
theorem z19 {P : Program} {f : FuncId} {args : Array Value} {v : Value} (h : ∀ w, Calls P f args w fun e w' => e = .returned v ∧ w = w') (w : World) :
  Calls P f args w fun e w' => e = .returned v ∧ Below w.heap.size w w' :=
 (h w).mono fun e w' ⟨he, hw⟩ => ⟨he, by subst hw; exact Below.refl _ _⟩
end
end
section
section
open Go Go.RowKit
def headB (l : List Oper) (n : Nat) : Bool := (List.range n).all fun i =>
 match l[i]? with
 | some o => (o.after.all fun e => !Region.binds .any e || decide (e.on < i)) && (match o.guard with | none => true | some g => decide (g.1 < n))
 | none => true
def upto (n m : Nat) : Array Bool := Array.replicate n true ++ Array.replicate m false
def tailB (l : List Oper) (n : Nat) : Bool :=
 decide (n < l.length) && (Region.sinkB .any l.toArray n && (Region.chainB .any l.toArray n && (Region.seqB .any l.toArray (l.length - n) n (upto n (l.length - n)) && headB l n)))
theorem upto_get (n m j : Nat) (h : j < n + m) : (upto n m)[j]? = some (decide (j < n)) := by
 unfold upto
 by_cases hj : j < n
 · rw [Array.getElem?_append_left (by simpa using hj)]
   simp [hj]
 · rw [Array.getElem?_append_right (by simp; omega), Array.getElem?_replicate, if_pos (by simp; omega), zf hj]
def left (b : Array Bool) : Nat → Nat
 | 0 => 0
 | n + 1 => left b n + if b.getD n false = true then 0 else 1
theorem left_zero (b : Array Bool) : ∀ n, left b n = 0 → ∀ j, j < n → b.getD j false = true
 | 0, _, j, hj => absurd hj (by omega)
 | n + 1, h, j, hj => by
  unfold left at h
  by_cases e : j = n
  · subst e
    by_cases hb : b.getD j false = true
    · exact hb
    · rw [if_neg hb] at h; omega
  · exact left_zero b n (by omega) j (by omega)
theorem left_some (b : Array Bool) : ∀ n, left b n ≠ 0 → ∃ k, k < n ∧ b.getD k false = false ∧ ∀ j, j < k → b.getD j false = true
 | 0, h => absurd rfl h
 | n + 1, h => by
  by_cases h0 : left b n = 0
  · refine ⟨n, by omega, ?_, left_zero b n h0⟩
    cases hb : b.getD n false with
    | false => rfl
    | true => unfold left at h; rw [h0, if_pos hb] at h; exact absurd rfl h
  · obtain ⟨k, h1, h2, h3⟩ := left_some b n h0
    exact ⟨k, by omega, h2, h3⟩
theorem left_same (b : Array Bool) (i : Nat) : ∀ n, n ≤ i → left (b.setIfInBounds i true) n = left b n
 | 0, _ => rfl
 | n + 1, h => by
  unfold left
  rw [left_same b i n (by omega), getD_set_ne false (by omega)]
theorem left_set (b : Array Bool) (i : Nat) (hs : i < b.size) (h0 : b.getD i false = false) : ∀ n, i < n → left (b.setIfInBounds i true) n + 1 = left b n
 | 0, h => absurd h (by omega)
 | n + 1, h => by
  unfold left
  by_cases e : i = n
  · subst e
    rw [left_same b i i (Nat.le_refl _), h0, if_pos (by simp [hs]), if_neg (by decide)]
  · have := left_set b i hs h0 n (by omega)
    rw [getD_set_ne false (by omega)]
    omega
theorem left_start (m : Nat) : ∀ n, left (Array.replicate m false) n = n
 | 0 => rfl
 | n + 1 => by
  unfold left
  rw [left_start m n, getD_replicate_false, if_neg (by decide)]
theorem z12 (b : Array Bool) (n j : Nat) (d : Bool) (hj : j < n) (hs : n ≤ b.size) : (b.extract 0 n).getD j d = b.getD j d := by
 have h1 : j < (b.extract 0 n).size := by simp; omega
 have h2 : j < b.size := by omega
 have h3 : j < min n b.size := by omega
 simp [Array.getD_eq_getD_getElem?, Array.getElem?_eq_getElem h2, Array.getElem?_extract, h3]
theorem extract_set (b : Array Bool) (n i : Nat) (hi : i < n) (hs : n ≤ b.size) : (b.setIfInBounds i true).extract 0 n = (b.extract 0 n).setIfInBounds i true := by
 apply Array.ext_getElem?
 intro j
 by_cases e : i = j
 · subst e
   have h1 : i < min n b.size := by omega
   have h2 : i < b.size := by omega
   simp [Array.getElem?_extract, h1, h2]
 · simp [Array.getElem?_extract, Array.getElem?_setIfInBounds_ne e]
section
variable {P : Program} {C : World → Prop} {Q : Exit → Act → World → Prop} {l : List Oper} {n : Nat}
theorem take_get {i : Nat} (hi : i < n) : (l.take n).toArray[i]? = l.toArray[i]? := by simp [hi]
theorem head_of {i : Nat} {o : Oper} (hB : headB l n = true) (hi : i < n) (ho : l.toArray[i]? = some o) : (∀ e ∈ o.after, Region.binds .any e = true → e.on < i) ∧ (∀ g, o.guard = some g → g.1 < n) := by
 have h := List.all_eq_true.1 hB i (List.mem_range.2 hi)
 have ho' : l[i]? = some o := by simpa using ho
 rw [ho'] at h
 simp only [Bool.and_eq_true] at h
 refine ⟨fun e he hb => ?_, fun g hg => ?_⟩
 · have := Array.all_eq_true'.1 h.1 e he
   rw [hb] at this
   simpa using this
 · have := h.2
   rw [hg] at this
   simpa using this
theorem wanted_take {o : Oper} (tmps : Array Value) (hg : ∀ g, o.guard = some g → g.1 < n) : Region.wanted o (yielded (l.take n).toArray tmps) = Region.wanted o (yielded l.toArray tmps) := by
 unfold Region.wanted
 cases h : o.guard with
 | none => rfl
 | some g =>
  obtain ⟨j, b⟩ := g
  dsimp only
  unfold yielded
  rw [take_get (hg _ h)]
theorem qOp_take {i : Nat} {K : Act → Prop} {a : Act} (hB : headB l n = true) (hi : i < n) (h : qOp P (l.take n).toArray C i K a) : qOp P l.toArray C i K a := by
 unfold qOp at *
 rw [take_get hi] at h
 cases ho : l.toArray[i]? with
 | none => rw [ho] at h; exact h
 | some o =>
  rw [ho] at h
  dsimp only at *
  rw [← wanted_take (l := l) (n := n) a.tmps (head_of hB hi ho).2]
  exact h
theorem any_of_head (hn : n < l.length) (h1 : Region.sinkB .any l.toArray n = true) (h2 : Region.chainB .any l.toArray n = true) (h3 : Region.seqB .any l.toArray (l.length - n) n (upto n (l.length - n)) = true) (h4 : headB l n = true) :
  ∀ (f : Nat) (listed : Array Bool) (a : Act) (w : World), C w → HeadInv .any l.toArray n listed → left listed n = f →
   wpAnyQ P .any (l.take n).toArray C (fun a' => ∀ w', C w' → wpList P l.toArray Q (l.drop n) a' w') f (listed.extract 0 n) a →
   wpAny P .any l.toArray Q (f + (l.length - n)) listed a w
 | 0, listed, a, w, hC, inv, hf, h => by
  have hall := left_zero listed n hf
  have hsz : listed.size = l.length := by rw [inv.size]; simp
  have e : listed = upto n (l.length - n) := by
   apply Array.ext_getElem?
   intro j
   by_cases hl : j < listed.size
   · have hj : listed[j]? = some (listed.getD j false) := by simp [Array.getD_eq_getD_getElem?, Array.getElem?_eq_getElem hl]
     rw [hj, upto_get _ _ _ (by omega)]
     by_cases hj : j < n
     · rw [hall j hj, zt hj]
     · rw [getD_both (inv.tail j (by omega) (by simp; omega)), zf hj]
   · have h1 : listed.size ≤ j := by omega
     have h2 : (upto n (l.length - n)).size ≤ j := by unfold upto; simp; omega
     rw [Array.getElem?_eq_none h1, Array.getElem?_eq_none h2]
  have hd : (l.drop n).length = l.length - n := by simp
  have := wpAny_of_seq (md := .any) (Q' := Q) (l.drop n) n listed a w (fun j => by simp [List.getElem?_drop]) (by rw [hd, e]; exact h3) (h.2 w hC)
  rw [hd] at this
  rw [Nat.zero_add]
  exact this
 | f + 1, listed, a, w, hC, inv, hf, h => by
  have hsz : listed.size = l.length := by rw [inv.size]; simp
  obtain ⟨k, k1, k2, k3⟩ := left_some listed n (by omega)
  rw [show f + 1 + (l.length - n) = (f + (l.length - n)) + 1 by omega]
  have hun : listed.getD k true = false := getD_in (by omega) k2
  have hkr : k ∈ Region.ready .any l.toArray listed := by
   have ho : l.toArray[k]? = some l[k] := by simp
   exact mem_ready.2 ⟨hun, _, ho, fun e he hb => k3 _ ((head_of h4 k1 ho).1 e he hb)⟩
  refine ⟨fun h0 => (by rw [h0] at hkr; cases hkr), fun i hi => ?_⟩
  have hin : i < n := by
   rcases Nat.lt_or_ge i n with g | g
   · exact g
   · exact absurd hi (tail_waits h1 h2 (by simpa using hn) inv _ k rfl k1 hun i g)
  have hi' : i ∈ Region.ready .any (l.take n).toArray (listed.extract 0 n) := by
   obtain ⟨a1, o, a2, a3⟩ := mem_ready.1 hi
   refine mem_ready.2 ⟨?_, o, ?_, fun e he hb => ?_⟩
   · rw [z12 _ _ _ _ hin (by omega)]; exact a1
   · rw [take_get hin]; exact a2
   · have := (head_of h4 hin a2).1 e he hb
     rw [z12 _ _ _ _ (by omega) (by omega)]
     exact a3 e he hb
  have hq := qOp_take h4 hin (h.2 i hi')
  refine wpOp_of_qOp (P := P) (ops := l.toArray) (C := C) (i := i) (a := a) (w := w) (Q' := Q) hC (fun a' w' hC' hK => ?_) hq
  have hui : listed.getD i false = false := getD_both (mem_ready.1 hi).1
  refine any_of_head hn h1 h2 h3 h4 f (listed.setIfInBounds i true) a' w' hC' (inv.set hi hin) ?_ ?_
  · have := left_set listed i (by omega) hui n hin
    omega
  · rw [extract_set _ _ _ hin (by omega)]
    exact hK
theorem wp_region_quiet_tail {id : Nat} {a : Act} {w : World} (n : Nat) (hm : P.follows .mixedOrders = true) (hB : Region.lexB .any (l.take n).toArray = true) (hT : tailB l n = true) (hC : C { w with drawn := w.drawn + 1 })
  (h : wpQuiet P (l.take n).toArray C (fun a' => ∀ w', C w' → wpList P l.toArray Q (l.drop n) a' w') (l.take n) a) : (Code.region id l.toArray true).wp P Q a w := by
 simp only [tailB, Bool.and_eq_true, decide_eq_true_eq] at hT
 obtain ⟨hn, h1, h2, h3, h4⟩ := hT
 simp only [Region.lexB, Bool.and_eq_true] at hB
 have hl : (l.take n).length = n := by simp; omega
 refine wp_region_any hm ?_
 have inv0 : HeadInv .any l.toArray n (Array.replicate l.toArray.size false) :=
  ⟨by simp, fun j oj _ hl => (by rw [getD_replicate_false] at hl; cases hl), fun t _ ht => getD_in (by simpa using ht) (getD_replicate_false _ _)⟩
 have H := wpAnyQ_lex (C := C) (md := .any) hB.1 (l.take n) 0 (Array.replicate (l.take n).toArray.size false) a (by simp) (by simpa using hB.2) h
 have e : (Array.replicate l.toArray.size false).extract 0 n = Array.replicate (l.take n).toArray.size false := by
  apply Array.ext
  · simp
  · intro j j1 j2; simp
 rw [hl] at H
 have := any_of_head (P := P) (C := C) (Q := Q) hn h1 h2 h3 h4 n (Array.replicate l.toArray.size false) a { w with drawn := w.drawn + 1 } hC inv0 (left_start _ _) (by rw [e]; exact H)
 rw [show n + (l.length - n) = l.toArray.size by simp; omega] at this
 exact this
theorem z0h {id : Nat} {a : Act} {wb : World} {p : BW wb} (n : Nat) (hm : P.follows .mixedOrders = true) (hB : Region.lexB .any (l.take n).toArray = true) (hT : tailB l n = true)
  (h : wpQuiet P (l.take n).toArray (fun w' => ∃ q : BW wb, w' = q.w) (fun a' => ∀ w', (∃ q : BW wb, w' = q.w) → wpList P l.toArray Q (l.drop n) a' w') (l.take n) a) : (Code.region id l.toArray true).wp P Q a p.w :=
 wp_region_quiet_tail (C := fun w' => ∃ q : BW wb, w' = q.w) n hm hB hT ⟨p.next { p.w with drawn := p.w.drawn + 1 } ⟨rfl, rfl, rfl, Nat.le_refl _, fun _ _ => rfl⟩, rfl⟩ h
end
end
end
section
open Go.RowKit
def Bk (w : World) (b : Nat) (t : TypeId) (cs : Array Value) : Prop := w.heap[b]? = some (.cells cs t (0, 0))
section
variable {w w' W : World} {b : Nat} {t : TypeId} {cs : Array Value}
theorem Bk.lt (h : Bk w b t cs) : b < w.heap.size := by
 unfold Bk at h
 obtain ⟨hlt, _⟩ := Array.getElem?_eq_some_iff.1 h
 exact hlt
theorem Bk.cell (h : Bk w b t cs) {i : Nat} {v : Value} (hv : cs[i]? = some v) : w.cell? ⟨b, i, none⟩ = some v := by
 unfold Bk at h
 simp [World.cell?, h, hv]
theorem Bk.frozen (h : Bk w b t cs) (i : Nat) : w.frozen? ⟨b, i, none⟩ = false := by
 unfold Bk at h
 simp [World.frozen?, h]
theorem Bk.new (w : World) (cs : Array Value) (t : TypeId) : Bk (w.alloc (.cells cs t)) w.heap.size t cs := by
 unfold Bk World.alloc; simp
theorem Bk.new_at (w : World) (cs : Array Value) (t : TypeId) (b : Nat) (h : b = w.heap.size) : Bk (w.alloc (.cells cs t)) b t cs := by subst h; exact Bk.new _ _ _
theorem Bk.alloc (h : Bk w b t cs) (o : Obj) : Bk (w.alloc o) b t cs := (Below.heap_alloc w o b h.lt).trans h
theorem Bk.drew (h : Bk w b t cs) : Bk w.drew b t cs := h
theorem Bk.drewN (h : Bk w b t cs) (n : Nat) : Bk (w.drewN n) b t cs := h
theorem Bk.other (h : Bk w b t cs) {a : Addr} (ha : b ≠ a.block) (v : Value) : Bk (w.setCell a v) b t cs := (Below.heap_setCell w a v b ha).trans h
theorem Bk.set (h : Bk w b t cs) (i : Nat) (v : Value) : Bk (w.setCell ⟨b, i, none⟩ v) b t (cs.setIfInBounds i v) := by
 unfold Bk at h ⊢
 simp [World.setCell, Array.getElem?_modify, h]
theorem Bk.below (h : Bk w b t cs) (hb : Below w.heap.size w w') : Bk w' b t cs := (hb.block b h.lt).trans h
theorem Bk.cast {ds : Array Value} (h : Bk w b t cs) (e : cs = ds) : Bk w b t ds := e ▸ h
end
theorem keep2 {w W w1 : World} {g : Nat} {u v : Value} (h0 : Below w.heap.size w W) (hb : Below W.heap.size W w1) (hg : g < W.heap.size) (k0 : W.cell? ⟨g, 0, none⟩ = some u) (k1 : W.cell? ⟨g, 1, none⟩ = some v) :
  w1.cell? ⟨g, 0, none⟩ = some u ∧ w1.cell? ⟨g, 1, none⟩ = some v ∧ g < w1.heap.size ∧ Below w.heap.size w w1 :=
 ⟨(hb.cell (p := ⟨g, 0, none⟩) hg).trans k0, (hb.cell (p := ⟨g, 1, none⟩) hg).trans k1, zl hg hb.size, h0.trans (hb.mono h0.size)⟩
theorem keep2e {w W w1 : World} {g : Nat} {u v : Value} {C : Prop} (hb : Below W.heap.size W w1) (h0 : Below w.heap.size w W) (hg : g < W.heap.size) (k0 : W.cell? ⟨g, 0, none⟩ = some u) (k1 : W.cell? ⟨g, 1, none⟩ = some v)
  (K : w1.cell? ⟨g, 0, none⟩ = some u → w1.cell? ⟨g, 1, none⟩ = some v → g < w1.heap.size → Below w.heap.size w w1 → C) : C := by
 obtain ⟨a, b, c, d⟩ := keep2 h0 hb hg k0 k1
 exact K a b c d
def arr8 (f : Nat → Int) : Array Value := #[.int .i64 (f 0), .int .i64 (f 1), .int .i64 (f 2), .int .i64 (f 3), .int .i64 (f 4), .int .i64 (f 5), .int .i64 (f 6), .int .i64 (f 7)]
theorem cases8 {P : Nat → Prop} {k : Nat} (hk : k < 8) (h0 : P 0) (h1 : P 1) (h2 : P 2) (h3 : P 3) (h4 : P 4) (h5 : P 5) (h6 : P 6) (h7 : P 7) : P k := by
 rcases k with _ | _ | _ | _ | _ | _ | _ | _ | k
 all_goals first | assumption | omega
theorem arr8_get (f : Nat → Int) {k : Nat} (hk : k < 8) : (arr8 f)[k]? = some (.int .i64 (f k)) :=
 cases8 (P := fun k => (arr8 f)[k]? = some (.int .i64 (f k))) hk rfl rfl rfl rfl rfl rfl rfl rfl
theorem arr8_set (f : Nat → Int) {k : Nat} (hk : k < 8) (v : Int) : (arr8 f).setIfInBounds k (.int .i64 v) = arr8 (fun j => if j = k then v else f j) :=
 cases8 (P := fun k => (arr8 f).setIfInBounds k (.int .i64 v) = arr8 (fun j => if j = k then v else f j)) hk rfl rfl rfl rfl rfl rfl rfl rfl
theorem arr8_congr {f g : Nat → Int} (h : ∀ j, j < 8 → f j = g j) : arr8 f = arr8 g := by
 unfold arr8
 rw [h 0 (by omega), h 1 (by omega), h 2 (by omega), h 3 (by omega), h 4 (by omega), h 5 (by omega), h 6 (by omega), h 7 (by omega)]
theorem Bk.store8 {w : World} {b : Nat} {t : TypeId} {v0 v1 v2 v3 v4 v5 v6 v7 : Value} (h : Bk w b t #[.int .i64 0, .int .i64 0, .int .i64 0, .int .i64 0, .int .i64 0, .int .i64 0, .int .i64 0, .int .i64 0]) : Bk ((((((((w.setCell ⟨b, 0, none⟩ v0).setCell ⟨b, 1, none⟩ v1).setCell ⟨b, 2, none⟩ v2).setCell ⟨b, 3, none⟩ v3).setCell ⟨b, 4, none⟩ v4).setCell ⟨b, 5, none⟩ v5).setCell ⟨b, 6, none⟩ v6).setCell ⟨b, 7, none⟩ v7) b t #[v0, v1, v2, v3, v4, v5, v6, v7] :=
 ((((((((h.set 0 v0).set 1 v1).set 2 v2).set 3 v3).set 4 v4).set 5 v5).set 6 v6).set 7 v7).cast (by simp)
theorem Bk.other8 {w : World} {b p : Nat} {t : TypeId} {cs : Array Value} {v0 v1 v2 v3 v4 v5 v6 v7 : Value} (h : Bk w b t cs) (hp : b ≠ p) : Bk ((((((((w.setCell ⟨p, 0, none⟩ v0).setCell ⟨p, 1, none⟩ v1).setCell ⟨p, 2, none⟩ v2).setCell ⟨p, 3, none⟩ v3).setCell ⟨p, 4, none⟩ v4).setCell ⟨p, 5, none⟩ v5).setCell ⟨p, 6, none⟩ v6).setCell ⟨p, 7, none⟩ v7) b t cs :=
 (((((((h.other (a := ⟨p, 0, none⟩) hp v0).other (a := ⟨p, 1, none⟩) hp v1).other (a := ⟨p, 2, none⟩) hp v2).other (a := ⟨p, 3, none⟩) hp v3).other (a := ⟨p, 4, none⟩) hp v4).other (a := ⟨p, 5, none⟩) hp v5).other (a := ⟨p, 6, none⟩) hp v6).other (a := ⟨p, 7, none⟩) hp v7
theorem Bk.set8 {w : World} {b : Nat} {t : TypeId} {f g : Nat → Int} (h : Bk w b t (arr8 f)) {k : Nat} (hk : k < 8) {v : Int} (hv : v = g k) (hg : ∀ j, j < 8 → j ≠ k → f j = g j) :
  Bk (w.setCell ⟨b, k, none⟩ (.int .i64 v)) b t (arr8 g) := by
 refine (h.set k (.int .i64 v)).cast ?_
 rw [arr8_set f hk v]
 refine arr8_congr fun j hj => ?_
 by_cases e : j = k
 · rw [if_pos e, e, hv]
 · rw [if_neg e]; exact hg j hj e
end
end Go.Proofs.Sky
