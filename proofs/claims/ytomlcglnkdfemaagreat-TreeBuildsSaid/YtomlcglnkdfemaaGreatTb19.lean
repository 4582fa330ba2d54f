/- Memory of layer 15: slices of boxes; an array of eight groups of boxes, whole, in parts. -/
import Derived.Test.YtomlcglnkdfemaaGreatTb9
import Derived.Test.YtomlcglnkdfemaaGreatTb13
import Derived.Test.YtomlcglnkdfemaaGreatTb5
import Derived.Deep.MidRow
import Derived.Laws.CopyRow
import Derived.Deep.WholeRow
import Derived.Maps.AppendAt
import Derived.OwnWalk


namespace Go.Proofs.YtomlcglnkdfemaaGreat
section

open Go.RowKit Go.Proofs.Sky

set_option linter.unusedVariables false

def bcells (b : Bx) : List Value := [.int .i64 b.1.1, .int .i64 b.1.2.1, .int .i64 b.1.2.2, .int .i64 b.2.1, .int .i64 b.2.2.1, .int .i64 b.2.2.2]

/-- A slice of boxes. -/
def Boxes (w : World) (v : Value) (n : Nat) (V : Nat → Bx) : Prop := Sl w v n 6 (fun i => bcells (V i))

theorem Boxes.below {w w' : World} {B : Nat} {v : Value} {n : Nat} {V : Nat → Bx} (h : Boxes w v n V) (hb : Below B w w') (hB : w.heap.size ≤ B) : Boxes w' v n V := Sl.below h hb hB

/-- The seven cells of a group. -/
def gcells (g : Gp) : List Value := [.int .i64 g.1.1.1, .int .i64 g.1.1.2.1, .int .i64 g.1.1.2.2, .int .i64 g.1.2.1, .int .i64 g.1.2.2.1, .int .i64 g.1.2.2.2, .int .i64 (g.2 : Int)]

/-- Eight groups, as they lie. -/
def GL (G : Nat → Gp) : List Value := (List.range 8).flatMap (fun j => gcells (G j))

def GA (G : Nat → Gp) : Array Value := (GL G).toArray

theorem GL_len (G : Nat → Gp) : (GL G).length = 56 := rfl

theorem GA_size (G : Nat → Gp) : (GA G).size = 56 := rfl

theorem GL_at (G : Nat → Gp) {k j : Nat} (hk : k < 8) (hj : j < 7) : (GL G)[k * 7 + j]? = (gcells (G k))[j]? := by
  have h := flat_at (fun j => gcells (G j)) 7 (fun _ => rfl) (List.range 8) k (by simpa using hk) j hj
  rw [List.getElem_range] at h
  exact h

theorem GA_congr {G H : Nat → Gp} (h : ∀ k, k < 8 → G k = H k) : GA G = GA H := by
  unfold GA GL
  congr 1
  rw [List.flatMap_def, List.flatMap_def]
  congr 1
  exact List.map_congr_left (fun k hk => by rw [h k (by simpa using hk)])

theorem GA_one (G : Nat → Gp) : (GA G).all (·.oneCell') = true := by
  refine Array.all_eq_true_iff_forall_mem.2 (fun v hv => ?_)
  have hv' : v ∈ GL G := by simpa [GA] using hv
  unfold GL at hv'
  rw [List.mem_flatMap] at hv'
  obtain ⟨j, _, hv'⟩ := hv'
  simp only [gcells, List.mem_cons, List.not_mem_nil, or_false] at hv'
  rcases hv' with rfl | rfl | rfl | rfl | rfl | rfl | rfl <;> rfl

theorem gcells_one (g : Gp) : (gcells g).toArray.all (·.oneCell') = true := by
  refine Array.all_eq_true_iff_forall_mem.2 (fun v hv => ?_)
  have hv' : v ∈ gcells g := by simpa using hv
  simp only [gcells, List.mem_cons, List.not_mem_nil, or_false] at hv'
  rcases hv' with rfl | rfl | rfl | rfl | rfl | rfl | rfl <;> rfl

/-- One of the groups, in its cells. -/
theorem group_range {w : World} {b : Nat} {t : TypeId} {G : Nat → Gp} (h : Bk w b t (GA G)) {k : Nat} (hk : k < 8) : w.rangeAt b (k * 7) (gcells (G k)) := fun j v hv => by
  have hj : j < 7 := (List.getElem?_eq_some_iff.1 hv).1
  refine h.cell ?_
  unfold GA
  rw [List.getElem?_toArray, GL_at G hk hj]
  exact hv

theorem group_there {w : World} {b : Nat} {t : TypeId} {G : Nat → Gp} (h : Bk w b t (GA G)) {k : Nat} (hk : k < 8) : w.there b (k * 7) 7 := fun j hj => by
  refine ⟨?_, h.frozen _⟩
  rw [group_range h hk j _ (List.getElem?_eq_getElem (by simpa [gcells] using hj))]
  rfl

theorem setCells_bk {b : Nat} {t : TypeId} : ∀ (vs : List Value) (o : Nat) (w : World) (cs : Array Value), Bk w b t cs → o + vs.length ≤ cs.size → Bk (w.setCells b o vs) b t ((cs.toList.take o ++ vs ++ cs.toList.drop (o + vs.length)).toArray)
  | [], o, w, cs, h, hl => by
    show Bk w b t _
    refine h.cast ?_
    simp
  | v :: vs, o, w, cs, h, hl => by
    show Bk ((w.setCell ⟨b, o, none⟩ v).setCells b (o + 1) vs) b t _
    refine (setCells_bk vs (o + 1) _ _ (h.set o v) (by simp at hl ⊢; omega)).cast ?_
    apply congrArg
    have hlo : o < cs.toList.length := by simp at hl ⊢; omega
    apply List.ext_getElem?
    intro i
    simp only [Array.toList_setIfInBounds, List.length_cons]
    simp only [List.append_assoc, List.getElem?_append, List.length_take, List.length_set, List.getElem?_take, List.getElem?_drop, List.getElem?_set]
    have e1 : min (o + 1) cs.toList.length = o + 1 := by omega
    have e2 : min o cs.toList.length = o := by omega
    rw [e1, e2]
    by_cases h1 : i < o
    · rw [if_pos (by omega), if_pos (by omega), if_neg (by omega), if_pos h1, if_pos h1]
    · by_cases h2 : i = o
      · subst h2
        rw [if_pos (by omega), if_pos (by omega), if_pos rfl, if_pos hlo, if_neg (by omega), Nat.sub_self]
        simp
      · rw [if_neg (by omega), if_neg h1]
        have e3 : i - o = (i - (o + 1)) + 1 := by omega
        simp only [e3, List.length_cons, List.getElem?_cons_succ]
        by_cases h3 : i - (o + 1) < vs.length
        · rw [if_pos h3, if_pos (by omega)]
        · rw [if_neg h3, if_neg (by omega), if_neg (by omega)]
          congr 1
          omega

theorem setCells_other {b : Nat} : ∀ (vs : List Value) (o : Nat) (w : World) {g : Nat} {t : TypeId} {cs : Array Value}, Bk w g t cs → g ≠ b → Bk (w.setCells b o vs) g t cs
  | [], _, _, _, _, _, h, _ => h
  | v :: vs, o, w, g, t, cs, h, hne => setCells_other vs (o + 1) _ (h.other (a := ⟨b, o, none⟩) hne v) hne

theorem setCells_below {b B : Nat} {w0 : World} (hB : B ≤ b) : ∀ (vs : List Value) (o : Nat) (w : World), Below B w0 w → Below B w0 (w.setCells b o vs)
  | [], _, _, h => h
  | v :: vs, o, w, h => setCells_below hB vs (o + 1) _ (h.setCell (p := ⟨b, o, none⟩) hB v)

def gset (G : Nat → Gp) (k : Nat) (g : Gp) : Nat → Gp := fun j => if j = k then g else G j

theorem GL_split (G : Nat → Gp) {k : Nat} (hk : k < 8) (g : Gp) : (GL G).take (k * 7) ++ gcells g ++ (GL G).drop (k * 7 + 7) = GL (gset G k g) := by
  apply List.ext_getElem?
  intro i
  rw [List.append_assoc]
  simp only [List.getElem?_append, List.length_take, List.getElem?_take, List.getElem?_drop, GL_len]
  have e1 : min (k * 7) 56 = k * 7 := by omega
  have e2 : (gcells g).length = 7 := rfl
  rw [e1, e2]
  by_cases hi : i < 56
  · have hd : i / 7 < 8 := by omega
    have hm : i % 7 < 7 := by omega
    have hi7 : i / 7 * 7 + i % 7 = i := by omega
    have r := GL_at (gset G k g) hd hm
    have r0 := GL_at G hd hm
    rw [hi7] at r r0
    rw [r]
    by_cases h1 : i < k * 7
    · rw [if_pos h1, if_pos h1, r0]
      unfold gset
      rw [if_neg (by omega)]
    · rw [if_neg h1]
      by_cases h2 : i - k * 7 < 7
      · rw [if_pos h2]
        have : i / 7 = k := by omega
        unfold gset
        rw [if_pos this]
        congr 1
        omega
      · rw [if_neg h2, show k * 7 + 7 + (i - k * 7 - 7) = i by omega, r0]
        unfold gset
        rw [if_neg (by omega)]
  · rw [if_neg (by omega), if_neg (by omega), List.getElem?_eq_none (by rw [GL_len]; omega), List.getElem?_eq_none (by rw [GL_len]; omega)]

/-- A group stored in its cells. -/
theorem group_stored {w : World} {b : Nat} {t : TypeId} {G : Nat → Gp} (h : Bk w b t (GA G)) {k : Nat} (hk : k < 8) (g : Gp) : Bk (w.setCells b (k * 7) (gcells g)) b t (GA (gset G k g)) := by
  refine (setCells_bk (gcells g) (k * 7) w (GA G) h (by rw [GA_size]; simp only [gcells, List.length_cons, List.length_nil]; omega)).cast ?_
  have := GL_split G hk g
  unfold GA
  rw [← this]
  rfl

theorem bk_row {w : World} {b : Nat} {t : TypeId} {old cs : Array Value} (h : Bk w b t old) : Bk (w.setRow b cs) b t cs := setRow_heap w b old cs t (0, 0) h

theorem below_row {w0 w : World} {B b : Nat} {cs : Array Value} (h : Below B w0 w) (hB : B ≤ b) : Below B w0 (w.setRow b cs) :=
  ⟨h.os, h.tape, h.output, by simp; exact h.size, fun i hi => (setRow_other w b i cs (by omega)).trans (h.block i hi)⟩

/-- Two results, of which the first is a whole block. -/
theorem results_cell_tmp {P : Program} {fn : Func} {p q : Tmp} {ty : TypeId} (h : fn.results = #[.cell p ty, .tmp q]) (tmps : Array Value) (w : World) (g : Nat) (t : TypeId) (cs : Array Value) (d : TypeDesc)
    (hp : tmps.getD p undef = .pointer (some ⟨g, 0, none⟩)) (hg : Bk w g t cs) (hu : P.underlying ty = some d) (hd : (match d with | .struct _ | .array _ _ => true | _ => false) = true) (hi : (P.info? ty).map (·.size) = some cs.size) :
    (results fn tmps).run P w = .ok (.tuple #[.agg cs, tmps.getD q undef]) w := by
  have hp' : tmps[p]?.getD undef = .pointer (some ⟨g, 0, none⟩) := by simpa using hp
  simp [results, h, hp', asAddr, run_loadVar_row w g t ty cs (0, 0) d hg hu hd hi]

/-- Two results, both whole blocks. -/
theorem results_cell_cell {P : Program} {fn : Func} {p q : Tmp} {ty tz : TypeId} (h : fn.results = #[.cell p ty, .cell q tz]) (tmps : Array Value) (w : World) (g : Nat) (t : TypeId) (cs : Array Value) (d : TypeDesc)
    (hp : tmps.getD p undef = .pointer (some ⟨g, 0, none⟩)) (hg : Bk w g t cs) (hu : P.underlying ty = some d) (hd : (match d with | .struct _ | .array _ _ => true | _ => false) = true) (hi : (P.info? ty).map (·.size) = some cs.size)
    (g2 : Nat) (t2 : TypeId) (cs2 : Array Value) (d2 : TypeDesc)
    (hp2 : tmps.getD q undef = .pointer (some ⟨g2, 0, none⟩)) (hg2 : Bk w g2 t2 cs2) (hu2 : P.underlying tz = some d2) (hd2 : (match d2 with | .struct _ | .array _ _ => true | _ => false) = true) (hi2 : (P.info? tz).map (·.size) = some cs2.size) :
    (results fn tmps).run P w = .ok (.tuple #[.agg cs, .agg cs2]) w := by
  have hp' : tmps[p]?.getD undef = .pointer (some ⟨g, 0, none⟩) := by simpa using hp
  have hp2' : tmps[q]?.getD undef = .pointer (some ⟨g2, 0, none⟩) := by simpa using hp2
  simp [results, h, hp', hp2', asAddr, run_loadVar_row w g t ty cs (0, 0) d hg hu hd hi, run_loadVar_row w g2 t2 tz cs2 (0, 0) d2 hg2 hu2 hd2 hi2]

theorem ga_info : (Tryz.prog.info? 110).map (·.size) = some 56 := by kernel_rfl

theorem gr_info : (Tryz.prog.info? 109).map (·.size) = some 7 := by kernel_rfl

theorem gr_under : ∃ d, Tryz.prog.underlying 109 = some d ∧ d.isRow = true := ⟨_, Tryz.underlying109, rfl⟩

/-- The address of one of the groups. -/
theorem ga_index (g k : Nat) (hk : k < 8) (w : World) : (Instr.indexAt 110 (.pointer (some ⟨g, 0, none⟩)) (.int .i64 (k : Int))).run Tryz.prog w = .ok (.pointer (some ⟨g, k * 7, none⟩)) w := by
  have he : Tryz.prog.elem 110 = 109 := by kernel_rfl
  have hl : Tryz.prog.arrayLen 110 = 8 := by kernel_rfl
  rw [run_indexAt_array w _ _ _ _ (by rw [he, hl]; exact Tryz.underlying110), hl, if_pos ⟨by omega, by omega⟩, he]
  have hs : (sizeOf 109).run Tryz.prog w = .ok 7 w := by
    cases hq : Tryz.prog.info? 109 with
    | none => have := gr_info; rw [hq] at this; cases this
    | some i =>
      have := gr_info
      rw [hq] at this
      simp at this
      simp [sizeOf, typeInfo, hq, this]
  rw [hs, Result.andThen_ok]
  have : (k : Int).toNat = k := by omega
  rw [this, Addr.add_mid, Nat.zero_add]

section

variable {K : Act → World → Prop} {Q : Exit → Act → World → Prop} {a : Act} {w : World} {dst : Option Nat} {tz : TypeId} {ps : String} {af : Array Edge} {gd : Option (Nat × Bool)} {x y : Operand} {g : Nat} {t : TypeId} {G H : Nat → Gp}

set_option maxRecDepth 100000 in
theorem gwp_none (h : K (a.put dst (.agg (GA (fun _ => g0)))) w) :
    Oper.wp Tryz.prog { dst := dst, op := .build 110 #[], type := tz, pos := ps, after := af, guard := gd } a w K Q := by
  have e : (Tryz.prog.built 110 []) = some (GA (fun _ => g0)) := by kernel_rfl
  have em : ∀ f : Nat × Operand → Nat × Value, (Array.map f #[]).toList = [] := fun f => by simp
  refine wp_build 110 #[] rfl ?_ ?_
  · rw [em, e]; rfl
  · rw [em, e]; exact h

theorem gwp_load_all (hx : a.eval x = .pointer (some ⟨g, 0, none⟩)) (hg : Bk w g t (GA G)) (h : K (a.put dst (.agg (GA G))) w) :
    Oper.wp Tryz.prog { dst := dst, op := .load 110 x, type := tz, pos := ps, after := af, guard := gd } a w K Q :=
  wp_load_row _ x rfl g hx t (GA G) (0, 0) _ hg Tryz.underlying110 rfl ga_info h

theorem gwp_store_all (hx : a.eval x = .pointer (some ⟨g, 0, none⟩)) (hy : a.eval y = .agg (GA H)) (hg : Bk w g t (GA G)) (h : K (a.put dst undef) (w.setRow g (GA H))) :
    Oper.wp Tryz.prog { dst := dst, op := .store 110 x y, type := tz, pos := ps, after := af, guard := gd } a w K Q :=
  wp_store_row _ x y rfl g (GA H) hx hy t (GA G) hg ga_info rfl (GA_one H) h

theorem gwp_load {k : Nat} (hx : a.eval x = .pointer (some ⟨g, k * 7, none⟩)) (hg : Bk w g t (GA G)) (hk : k < 8) (h : K (a.put dst (.agg (gcells (G k)).toArray)) w) :
    Oper.wp Tryz.prog { dst := dst, op := .load 109 x, type := tz, pos := ps, after := af, guard := gd } a w K Q := by
  obtain ⟨d, h1, h2⟩ := gr_under
  exact wp_load_mid _ x rfl g (k * 7) hx (gcells (G k)) d (group_range hg hk) h1 h2 gr_info h

theorem gwp_store {k : Nat} {z : Gp} (hx : a.eval x = .pointer (some ⟨g, k * 7, none⟩)) (hy : a.eval y = .agg (gcells z).toArray) (hg : Bk w g t (GA G)) (hk : k < 8) (h : K (a.put dst undef) (w.setCells g (k * 7) (gcells z))) :
    Oper.wp Tryz.prog { dst := dst, op := .store 109 x y, type := tz, pos := ps, after := af, guard := gd } a w K Q :=
  wp_store_mid _ x y rfl g (k * 7) (gcells z).toArray hx hy (group_there hg hk) gr_info (gcells_one z) h

end

theorem group_bw {W : World} {b : Nat} {t : TypeId} {G : Nat → Gp} (h : Bk W b t (GA G)) {k : Nat} (hk : k < 8) :
    (∀ p : BW W, p.w.cell? ⟨b, k * 7, none⟩ = some (.int .i64 (G k).1.1.1)) ∧
    (∀ p : BW W, p.w.cell? ⟨b, k * 7 + 1, none⟩ = some (.int .i64 (G k).1.1.2.1)) ∧
    (∀ p : BW W, p.w.cell? ⟨b, k * 7 + 2, none⟩ = some (.int .i64 (G k).1.1.2.2)) ∧
    (∀ p : BW W, p.w.cell? ⟨b, k * 7 + 3, none⟩ = some (.int .i64 (G k).1.2.1)) ∧
    (∀ p : BW W, p.w.cell? ⟨b, k * 7 + 4, none⟩ = some (.int .i64 (G k).1.2.2.1)) ∧
    (∀ p : BW W, p.w.cell? ⟨b, k * 7 + 5, none⟩ = some (.int .i64 (G k).1.2.2.2)) ∧
    (∀ p : BW W, p.w.cell? ⟨b, k * 7 + 6, none⟩ = some (.int .i64 ((G k).2 : Int))) :=
  ⟨bw_cell (group_range h hk 0 _ rfl), bw_cell (group_range h hk 1 _ rfl), bw_cell (group_range h hk 2 _ rfl), bw_cell (group_range h hk 3 _ rfl), bw_cell (group_range h hk 4 _ rfl), bw_cell (group_range h hk 5 _ rfl), bw_cell (group_range h hk 6 _ rfl)⟩

theorem group_fz {W : World} {b : Nat} {t : TypeId} {cs : Array Value} (h : Bk W b t cs) (k : Nat) :
    (∀ p : BW W, p.w.frozen? ⟨b, k * 7, none⟩ = false) ∧
    (∀ p : BW W, p.w.frozen? ⟨b, k * 7 + 1, none⟩ = false) ∧
    (∀ p : BW W, p.w.frozen? ⟨b, k * 7 + 2, none⟩ = false) ∧
    (∀ p : BW W, p.w.frozen? ⟨b, k * 7 + 3, none⟩ = false) ∧
    (∀ p : BW W, p.w.frozen? ⟨b, k * 7 + 4, none⟩ = false) ∧
    (∀ p : BW W, p.w.frozen? ⟨b, k * 7 + 5, none⟩ = false) ∧
    (∀ p : BW W, p.w.frozen? ⟨b, k * 7 + 6, none⟩ = false) :=
  ⟨bwf h _, bwf h _, bwf h _, bwf h _, bwf h _, bwf h _, bwf h _⟩

section

variable {K : Act → World → Prop} {Q : Exit → Act → World → Prop} {a : Act} {w : World} {dst : Option Nat} {tz : TypeId} {ps : String} {af : Array Edge} {gd : Option (Nat × Bool)} {x y : Operand} {g : Nat} {t : TypeId} {G H : Nat → Gp}

theorem gwp_store_same (hx : a.eval x = .pointer (some ⟨g, 0, none⟩)) (hy : a.eval y = .agg (GA G)) (hg : Bk w g t (GA G)) (h : K (a.put dst undef) w) :
    Oper.wp Tryz.prog { dst := dst, op := .store 110 x y, type := tz, pos := ps, after := af, guard := gd } a w K Q :=
  gwp_store_all hx hy hg (by rw [setRow_self w g (GA G) t (0, 0) hg]; exact h)

end

section

variable {K : Act → World → Prop} {Q : Exit → Act → World → Prop} {a : Act} {w : World} {dst : Option Nat} {tz : TypeId} {ps : String} {af : Array Edge} {gd : Option (Nat × Bool)} {x y : Operand} {g : Nat} {t : TypeId} {G H : Nat → Gp} {c : Array Value}

/-- The first store of an array that was just made. -/
theorem gwp_store_new (hx : a.eval x = .pointer (some ⟨w.heap.size, 0, none⟩)) (hy : a.eval y = .agg (GA H)) (hc : c.size = 56) (h : K (a.put dst undef) (w.alloc (.cells (GA H) t))) :
    Oper.wp Tryz.prog { dst := dst, op := .store 110 x y, type := tz, pos := ps, after := af, guard := gd } a (w.alloc (.cells c t)) K Q := by
  refine wp_store_row _ x y rfl w.heap.size (GA H) hx hy t c (heap_alloc_last w _) ga_info hc (GA_one H) ?_
  rw [World.setRow_alloc_new]
  exact h

/-- The first stores of two that were just made: the elder one. -/
theorem gwp_store_elder {c2 : Array Value} {t2 : TypeId} (hx : a.eval x = .pointer (some ⟨w.heap.size, 0, none⟩)) (hy : a.eval y = .agg (GA H)) (hc : c.size = 56) (h : K (a.put dst undef) ((w.alloc (.cells (GA H) t)).alloc (.cells c2 t2))) :
    Oper.wp Tryz.prog { dst := dst, op := .store 110 x y, type := tz, pos := ps, after := af, guard := gd } a ((w.alloc (.cells c t)).alloc (.cells c2 t2)) K Q := by
  have hl : w.heap.size < (w.alloc (.cells c t)).heap.size := by simp
  have hg : ((w.alloc (.cells c t)).alloc (.cells c2 t2)).heap[w.heap.size]? = some (.cells c t (0, 0)) := (heap_alloc_old _ _ hl).trans (heap_alloc_last w _)
  refine wp_store_row _ x y rfl w.heap.size (GA H) hx hy t c hg ga_info hc (GA_one H) ?_
  have e : ((w.alloc (.cells c t)).alloc (.cells c2 t2)).setRow w.heap.size (GA H) = (w.alloc (.cells (GA H) t)).alloc (.cells c2 t2) := by
    rw [← World.setRow_alloc_new w c (GA H) t]
    simp only [World.setRow, World.alloc]
    congr 1
    apply Array.ext_getElem?
    intro i
    simp only [Array.getElem?_modify, Array.getElem?_push]
    by_cases h1 : w.heap.size = i
    · subst h1
      simp
    · by_cases h2 : i = (w.heap.push (Obj.cells c t)).size
      · subst h2
        simp
      · simp [h1]
  rw [e]
  exact h

end

/-- The sums from both ends, as far as they have come. -/
def gBefore (ax lo hi : Int) (l : List Bx) (k : Nat) : Nat → Gp := fun j => if j ≤ k then gL (isL ax lo hi j) l else g0

def gOthers (ax lo hi : Int) (l : List Bx) (k : Nat) : Nat → Gp := fun j => if 7 ≤ j + k then gL (isR ax lo hi j) l else g0

theorem gBefore_start {ax lo hi : Int} (l : List Bx) : gBefore ax lo hi l 0 = fun _ => g0 := by
  funext j
  unfold gBefore
  split
  · rename_i h
    rw [show j = 0 by omega]
    exact gBefore_zero l
  · rfl

theorem gBefore_step {ax lo hi : Int} (l : List Bx) (k : Nat) : gset (gBefore ax lo hi l k) (k + 1) (gW (gBefore ax lo hi l k k) (gL (isB ax lo hi k) l)) = gBefore ax lo hi l (k + 1) := by
  funext j
  unfold gset gBefore
  by_cases h : j = k + 1
  · subst h
    rw [if_pos rfl, if_pos (Nat.le_refl _), if_pos (Nat.le_refl _), gBefore_succ]
  · rw [if_neg h]
    by_cases h2 : j ≤ k
    · rw [if_pos h2, if_pos (by omega)]
    · rw [if_neg h2, if_neg (by omega)]

theorem gOthers_start {ax lo hi : Int} (l : List Bx) : GA (gset (fun _ => g0) 7 (gL (isB ax lo hi (7 : Nat)) l)) = GA (gOthers ax lo hi l 0) := GA_congr (fun j hj => by
  unfold gset gOthers
  by_cases h : j = 7
  · subst h
    rw [if_pos rfl, if_pos (by omega)]
    exact gOthers_last l
  · rw [if_neg h, if_neg (by omega)])

theorem gOthers_step {ax lo hi : Int} (l : List Bx) (k m : Nat) (hm : m + k = 6) : gset (gOthers ax lo hi l k) m (gW (gOthers ax lo hi l k (m + 1)) (gL (isB ax lo hi m) l)) = gOthers ax lo hi l (k + 1) := by
  funext j
  unfold gset gOthers
  by_cases h : j = m
  · subst h
    rw [if_pos rfl, if_pos (by omega), if_pos (by omega), gOthers_succ]
  · rw [if_neg h]
    by_cases h2 : 7 ≤ j + k
    · rw [if_pos h2, if_pos (by omega)]
    · rw [if_neg h2, if_neg (by omega)]

theorem gBefore_end {ax lo hi : Int} (l : List Bx) : GA (gBefore ax lo hi l 7) = GA (fun j : Nat => gL (isL ax lo hi j) l) := GA_congr (fun j hj => by unfold gBefore; rw [if_pos (by omega)])

theorem gOthers_end {ax lo hi : Int} (l : List Bx) : GA (gOthers ax lo hi l 7) = GA (fun j : Nat => gL (isR ax lo hi j) l) := GA_congr (fun j hj => by unfold gOthers; rw [if_pos (by omega)])

/-- A row of indices that a call made. -/
def Ints (w : World) (B : Nat) (v : Value) (l : List Nat) : Prop := w.ownsRow B 3 1 v l.length (l.map (fun k : Nat => Value.int .i64 (k : Int)))

theorem Ints.below {w w' : World} {B : Nat} {v : Value} {l : List Nat} (h : Ints w B v l) (hb : Below w.heap.size w w') : Ints w' B v l := owns_below h hb

theorem ints_alloc {w W : World} {B : Nat} {v : Value} {l : List Nat} {o : Obj} (hW : W = w.alloc o) (h : Ints w B v l) : Ints W B v l := by
  subst hW; exact World.ownsRow.alloc h o

theorem Ints.mono {w : World} {B C : Nat} {v : Value} {l : List Nat} (h : Ints w B v l) (hC : C ≤ B) : Ints w C v l := owns_mono h hC

theorem owns_grown {w w' : World} {B : Nat} {e : TypeId} {size n : Nat} {v : Value} {xs : List Value} {row : Option Nat} (h : w.ownsRow B e size v n xs) (hg : w.grownBy w' row) (hne : ∀ j, v.ownBlock = some j → row ≠ some j) : w'.ownsRow B e size v n xs := by
  obtain ⟨hl, h⟩ := h
  refine ⟨hl, ?_⟩
  rcases h with h | ⟨g, cap, cur, e1, hB, hg', rest⟩
  · exact .inl h
  · have hlt := (Array.getElem?_eq_some_iff.1 hg').1
    exact .inr ⟨g, cap, cur, e1, hB, (hg.block g hlt (fun e2 => hne g (by rw [e1]; rfl) e2.symm)).trans hg', rest⟩

/-- A row of indices, as a slice of ints. -/
theorem Ints.slice {w : World} {B : Nat} {v : Value} {l : List Nat} (h : Ints w B v l) (hk : ∀ k ∈ l, k ≤ 1048576) : ∃ (o : Option Addr) (cap : Nat), v = .slice o l.length cap ∧ IntSlice w o l.length (fun i => ((l.getD i 0 : Nat) : Int)) := by
  obtain ⟨hl, h⟩ := h
  rcases h with ⟨rfl, hz⟩ | ⟨g, cap, cur, rfl, hB, hg, hn, hms, hs, hx⟩
  · exact ⟨none, 0, by rw [hz], .inl hz⟩
  · refine ⟨_, cap, rfl, .inr ⟨g, 0, rfl, fun k hlt => ?_, (Array.getElem?_eq_some_iff.1 hg).1⟩⟩
    have e : l.getD k 0 = l[k] := by rw [List.getD_eq_getElem?_getD, List.getElem?_eq_getElem hlt]; rfl
    have e1 : (l.map (fun k : Nat => Value.int .i64 (k : Int)))[k]? = some (.int .i64 ((l[k] : Nat) : Int)) := by rw [List.getElem?_map, List.getElem?_eq_getElem hlt]; rfl
    refine ⟨?_, ?_⟩
    · rw [← hx, List.getElem?_take, if_pos (by omega)] at e1
      show w.cell? ⟨g, 0 + k, none⟩ = some (.int .i64 ((l.getD k 0 : Nat) : Int))
      rw [Nat.zero_add, e]
      simp only [World.cell?, hg]
      simpa using e1
    · have := hk _ (List.getElem_mem hlt)
      rw [← e] at this
      dsimp only
      unfold I64
      omega

theorem wpList_append_at {P : Program} {w : World} {ops : Array Oper} {rest : List Oper} {o : Oper} {a : Act} {Q : Exit → Act → World → Prop} (hgd : o.guard = none) (s x : Operand) (t : TypeId)
    (ho : o.op = .call { callee := .builtin .append, args := #[s, x], argTypes := #[t, t] })
    (base : Nat) (e : TypeId) (i : TypeInfo) (z : Value) (size bytes : Nat) (ht : P.underlying t = some (.slice e)) (hi : P.info? e = some i) (hz : i.zero = some z)
    (hsize : i.size = size) (hby : i.bytes = bytes) (hzs : z.cells.size = size) (hsz : 0 < size)
    (v : Value) (n : Nat) (xs : List Value) (hs : a.eval s = v) (hown : w.ownsRow base e size v n xs)
    (ad : Addr) (m c : Nat) (news : List Value) (hx : a.eval x = .slice (some ad) m c) (hl : news.length = m * size) (hnews : ∀ j u, news[j]? = some u → w.cell? (ad.add j) = some u) (h1 : ∀ u ∈ news, u.oneCell' = true)
    (h63 : n + m ≤ maxLen) (hbytes : (n + m) * bytes ≤ 140737488355328) (hbase : base ≤ w.heap.size)
    (h : ∀ v' w', w'.ownsRow base e size v' (n + m) (xs ++ news) → w.grownBy w' v.ownBlock → (v'.ownBlock = v.ownBlock ∨ v'.ownBlock = some w.heap.size) → wpList P ops Q rest (a.put o.dst v') w') : wpList P ops Q (o :: rest) a w :=
  wpList_plain hgd fun K hK => by
    obtain ⟨v', w', hr, h2, h3, h4, h5⟩ := run_append_own_at (P := P) w base t o.type e i z size bytes ht hi hz hsize hby hzs hsz v n xs hown ad m c news hl hnews h1 h63 hbytes hbase
    unfold Oper.wp
    simp [execOp, ho, resolve, invoke, builtin, hs, hx, hr, Result.andThen]
    exact hK _ _ (h v' w' h2 h3 h5)

/-- Two rows of a call's own share no block. -/
def Apart2 (u v : Value) : Prop := ∀ j, u.ownBlock = some j → v.ownBlock ≠ some j

theorem int_info15 : (Tryz.prog.info? 3).map (fun i => (i.zero, i.size, i.bytes)) = some (some (.int .i64 0), 1, 8) := by kernel_rfl

/-- One of two rows, behind an index that was put at its end. -/
theorem Ints.put {w w' : World} {B k : Nat} {u u' v : Value} {l m : List Nat} (hu' : w'.ownsRow B 3 1 u' (l.length + 1) (l.map (fun k : Nat => Value.int .i64 (k : Int)) ++ [.int .i64 (k : Int)])) (hv : Ints w B v m) (hap : Apart2 u v) (hg : w.grownBy w' u.ownBlock) (hb : u'.ownBlock = u.ownBlock ∨ u'.ownBlock = some w.heap.size) :
    Ints w' B u' (l ++ [k]) ∧ Ints w' B v m ∧ Apart2 u' v := by
  refine ⟨?_, owns_grown hv hg (fun j hj e => hap j e hj), fun j hj e => ?_⟩
  · unfold Ints
    rw [List.length_append, List.map_append]
    exact hu'
  · rcases hb with hb | hb
    · rw [hb] at hj; exact hap j hj e
    · rw [hb] at hj
      cases hj
      have := (World.ownsRow.lt hv _ e).2
      omega

theorem Apart2.symm {u v : Value} (h : Apart2 u v) : Apart2 v u := fun j hj e => h j e hj

end
end Go.Proofs.YtomlcglnkdfemaaGreat
