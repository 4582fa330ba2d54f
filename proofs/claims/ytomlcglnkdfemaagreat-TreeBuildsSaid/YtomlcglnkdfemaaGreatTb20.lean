/- Memory of layer 16: rows of boxes, nodes, steps and parts that a call makes; a row made shorter; one cell of it written. -/
import Derived.Test.YtomlcglnkdfemaaGreatTb19
import Derived.Test.YtomlcglnkdfemaaGreatTb12
import Derived.Test.YtomlcglnkdfemaaGreatTb13
import Derived.Laws.OwnMore


namespace Go.Proofs.YtomlcglnkdfemaaGreat
section

open Go.RowKit Go.Proofs.Sky

set_option linter.unusedVariables false

theorem owns_take {w : World} {B : Nat} {e : TypeId} {size n m cap : Nat} {a : Option Addr} {xs : List Value} (h : w.ownsRow B e size (.slice a n cap) n xs) (hm : m ≤ n) :
    w.ownsRow B e size (.slice a m cap) m (xs.take (m * size)) := by
  obtain ⟨hl, h⟩ := h
  have hle : m * size ≤ n * size := Nat.mul_le_mul_right _ hm
  rcases h with ⟨e1, h0⟩ | ⟨g, cap', cur, e1, hB, hg, hnc, hcm, hcs, ht⟩
  · cases e1
    have : m = 0 := by omega
    subst this
    exact ⟨by simp, .inl ⟨rfl, rfl⟩⟩
  · cases e1
    refine ⟨by rw [List.length_take]; omega, .inr ⟨g, _, cur, rfl, hB, hg, by omega, hcm, hcs, ?_⟩⟩
    rw [← ht, List.take_take, Nat.min_eq_left hle]

/-- A row that lies behind the block of a cell that is written. -/
theorem owns_set {w : World} {B : Nat} {e : TypeId} {size n : Nat} {v : Value} {xs : List Value} (h : w.ownsRow B e size v n xs) {a : Addr} (ha : a.block < B) (x : Value) : (w.setCell a x).ownsRow B e size v n xs := by
  obtain ⟨hl, h⟩ := h
  refine ⟨hl, ?_⟩
  rcases h with h | ⟨g, cap, cur, e1, hB, hg, rest⟩
  · exact .inl h
  · exact .inr ⟨g, cap, cur, e1, hB, (Below.heap_setCell w a x g (by omega)).trans hg, rest⟩

theorem owns_some {w : World} {B : Nat} {e : TypeId} {size n : Nat} {v : Value} {xs : List Value} (h : w.ownsRow B e size v n xs) (hn : 0 < n) : ∃ g cap, v = .slice (some ⟨g, 0, none⟩) n cap ∧ B ≤ g ∧ g < w.heap.size ∧ n ≤ cap := by
  obtain ⟨hl, ⟨_, h0⟩ | ⟨g, cap', cur, e1, hB, hg, hnc, _⟩⟩ := h
  · omega
  · exact ⟨g, cap', e1, hB, (Array.getElem?_eq_some_iff.1 hg).1, hnc⟩

theorem owns_val {w : World} {B : Nat} {e : TypeId} {size n : Nat} {v : Value} {xs : List Value} (h : w.ownsRow B e size v n xs) : ∃ a cap, v = .slice a n cap := by
  obtain ⟨hl, ⟨e1, h0⟩ | ⟨g, cap', cur, e1, _⟩⟩ := h
  · exact ⟨none, 0, by rw [e1, h0]⟩
  · exact ⟨_, _, e1⟩

/-- The cell j of element i of a row that a call made. -/
theorem owns_at {α : Type} {w : World} {B : Nat} {e : TypeId} {size n cap g : Nat} {f : α → List Value} {l : List α} (hf : ∀ x, (f x).length = size) (h : w.ownsRow B e size (.slice (some ⟨g, 0, none⟩) n cap) n (l.flatMap f)) {i j : Nat} (hi : i < l.length) (hj : j < size) :
    w.cell? ⟨g, i * size + j, none⟩ = (f l[i])[j]? := by
  have hl := h.1
  rw [flat_len f size hf] at hl
  have h1 : i * size + j < n * size := by
    rw [← hl]
    have : (i + 1) * size ≤ l.length * size := Nat.mul_le_mul_right _ hi
    rw [Nat.succ_mul] at this
    omega
  rw [h.cellAt _ h1]
  exact flat_at f size hf l i hi j hj

theorem flat_take {α : Type} (f : α → List Value) (c : Nat) (hf : ∀ x, (f x).length = c) : ∀ (l : List α) (m : Nat), (l.flatMap f).take (m * c) = (l.take m).flatMap f
  | [], m => by simp
  | x :: l, 0 => by simp
  | x :: l, m + 1 => by
    rw [List.flatMap_cons, List.take_succ_cons, List.flatMap_cons, Nat.succ_mul, Nat.add_comm, ← hf x, List.take_append, List.take_of_length_le (by omega), Nat.add_sub_cancel_left, hf, flat_take f c hf l m]

theorem flat_set {α : Type} (f : α → List Value) (c : Nat) (hf : ∀ x, (f x).length = c) : ∀ (l : List α) (i j : Nat) (x : α) (u : Value), i < l.length → j < c → (∀ y, l[i]? = some y → (f y).set j u = f x) → (l.flatMap f).set (i * c + j) u = (l.set i x).flatMap f
  | [], i, j, x, u, h, _, _ => by simp at h
  | y :: l, 0, j, x, u, _, hj, he => by
    rw [List.flatMap_cons, Nat.zero_mul, Nat.zero_add, List.set_append_left _ _ (by rw [hf]; exact hj), he y rfl]
    rfl
  | y :: l, i + 1, j, x, u, h, hj, he => by
    rw [List.flatMap_cons, List.set_append_right _ _ (by rw [hf, Nat.succ_mul]; omega), hf, show (i + 1) * c + j - c = i * c + j by rw [Nat.succ_mul]; omega, flat_set f c hf l i j x u (by simpa using h) hj (fun y hy => he y (by simpa using hy))]
    rfl

theorem cells_new (w : World) (cs : Array Value) (t : TypeId) : ∀ j u, cs.toList[j]? = some u → (w.alloc (.cells cs t)).cell? ((⟨w.heap.size, 0, none⟩ : Addr).add j) = some u := by
  intro j u hj
  have h := (Bk.new w cs t).cell (i := j) (v := u) (by simpa using hj)
  by_cases h0 : j = 0
  · subst h0; exact h
  · simpa [Addr.add, h0] using h

theorem run_append_none16 {P : Program} {w : World} (t ty e : TypeId) (i : TypeInfo) (ht : P.underlying t = some (.slice e)) (hi : P.info? e = some i) (cap : Nat) :
    (Builtin.append_ #[t, t] ty #[.slice none 0 0, .slice none 0 cap]).run P w = .ok (.slice none 0 0) w := by
  simp [Builtin.append_, run_underlying ht, sizeOf, typeInfo, hi, Builtin.lenOf, Builtin.firstCells]

theorem wpList_append_row16 {P : Program} {w : World} {ops : Array Oper} {rest : List Oper} {o : Oper} {a : Act} {Q : Exit → Act → World → Prop} (hgd : o.guard = none) (s x : Operand) (t : TypeId)
    (ho : o.op = .call { callee := .builtin .append, args := #[s, x], argTypes := #[t, t] })
    (base : Nat) (e : TypeId) (i : TypeInfo) (z : Value) (size bytes : Nat) (ht : P.underlying t = some (.slice e)) (hi : P.info? e = some i) (hz : i.zero = some z)
    (hsize : i.size = size) (hby : i.bytes = bytes) (hzs : z.cells.size = size) (hsz : 0 < size) (hs : a.eval s = .slice none 0 0)
    (src : Option Addr) (m cap : Nat) (news : List Value) (hx : a.eval x = .slice src m cap) (hl : news.length = m * size) (hnews : m = 0 ∨ ∃ ad, src = some ad ∧ ∀ j u, news[j]? = some u → w.cell? (ad.add j) = some u) (h1 : ∀ u ∈ news, u.oneCell' = true)
    (h63 : m ≤ maxLen) (hbytes : m * bytes ≤ 140737488355328) (hbase : base ≤ w.heap.size)
    (h : ∀ v' w', w'.ownsRow base e size v' m news → w.grownBy w' none → wpList P ops Q rest (a.put o.dst v') w') : wpList P ops Q (o :: rest) a w := by
  cases src with
  | none =>
    have hm : m = 0 := by
      rcases hnews with h | ⟨_, h, _⟩
      · exact h
      · cases h
    subst hm
    have hn : news = [] := List.length_eq_zero_iff.1 (by simpa using hl)
    subst hn
    refine wpList_plain hgd fun K hK => ?_
    have hrun := run_append_none16 (P := P) (w := w) t o.type e i ht hi cap
    unfold Oper.wp
    simp [execOp, ho, resolve, invoke, builtin, hs, hx, hrun, Result.andThen]
    exact hK _ _ (h _ _ (World.ownsRow_nil _ _ _ _) ⟨rfl, rfl, rfl, Nat.le_refl _, fun _ _ _ => rfl⟩)
  | some ad =>
    refine wpList_append_own w hgd s x t ho base e i z size bytes ht hi hz hsize hby hzs hsz (.slice none 0 0) 0 [] hs (World.ownsRow_nil _ _ _ _) ad m cap news hx hl ?_ h1 (by omega) (by rw [Nat.zero_add]; exact hbytes) hbase ?_
    · intro j u hj
      rcases hnews with h | ⟨ad', h, hc⟩
      · subst h
        have hn : news = [] := List.length_eq_zero_iff.1 (by simpa using hl)
        subst hn
        cases hj
      · cases h
        exact hc j u hj
    · intro v' w' h2 h3 _
      rw [Nat.zero_add, List.nil_append] at h2
      exact h v' w' h2 h3

/-- A row of boxes that a call made. -/
def BoxRow (w : World) (B : Nat) (v : Value) (l : List Bx) : Prop := w.ownsRow B 41 6 v l.length (l.flatMap bcells)

theorem BoxRow.below {w w' : World} {B : Nat} {v : Value} {l : List Bx} (h : BoxRow w B v l) (hb : Below w.heap.size w w') : BoxRow w' B v l := owns_below h hb

theorem boxrow_alloc {w W : World} {B : Nat} {v : Value} {l : List Bx} {o : Obj} (hW : W = w.alloc o) (h : BoxRow w B v l) : BoxRow W B v l := by
  subst hW; exact World.ownsRow.alloc h o

theorem bcells_len16 (b : Bx) : (bcells b).length = 6 := rfl

theorem box_info : (Tryz.prog.info? 41).map (fun i => (i.zero, i.size, i.bytes)) = some (some (.agg #[.int .i64 0, .int .i64 0, .int .i64 0, .int .i64 0, .int .i64 0, .int .i64 0]), 6, 48) := by kernel_rfl

theorem boxrow_boxes {w : World} {B : Nat} {v : Value} {U : Nat → Bx} {n : Nat} (h : BoxRow w B v (bls U n)) (hn : n ≤ 1048576) : Boxes w v n U ∧ ∃ a cap, v = .slice a n cap := by
  have hl := bls_len U n
  have hs := owns_sll (f := bcells) (l := bls U n) bcells_len16 (by omega) rfl (by rw [hl]; unfold maxLen; omega) h
  obtain ⟨a, cap, rfl, hm, h⟩ := hs
  rw [hl]
  refine ⟨⟨a, cap, rfl, by unfold maxLen; omega, ?_⟩, a, cap, rfl⟩
  rcases h with h | ⟨b, off, rfl, hlt, hc⟩
  · exact .inl (by rw [hl] at h; exact h)
  · refine .inr ⟨b, off, rfl, hlt, fun i hi j hj => ?_⟩
    have e : (bls U n)[i]'(by rw [hl]; exact hi) = U i := by simp [bls]
    rw [hc i (by rw [hl]; exact hi) j hj, e]

/-- Places of steps: a place and a depth. -/
def scells (x : Int × Int) : List Value := [.int .i64 x.1, .int .i64 x.2]

theorem scells_len (x : Int × Int) : (scells x).length = 2 := rfl

theorem bcells_one (b : Bx) : ∀ u ∈ bcells b, u.oneCell' = true := by
  intro u hu
  simp only [bcells, List.mem_cons, List.not_mem_nil, or_false] at hu
  rcases hu with rfl | rfl | rfl | rfl | rfl | rfl <;> rfl

/-- The nine cells of a node of a slice. -/
theorem nodes_at {w : World} {a : Option Addr} {n cap : Nat} {ns : List Nd} (h : Nodes w (.slice a n cap) ns) {k : Nat} (hk : k < ns.length) : ∃ b off, a = some ⟨b, off, none⟩ ∧ b < w.heap.size ∧
    w.cell? ⟨b, off + k * 9, none⟩ = some (.int .i64 ns[k].1.1.1) ∧
    w.cell? ⟨b, off + k * 9 + 1, none⟩ = some (.int .i64 ns[k].1.1.2.1) ∧
    w.cell? ⟨b, off + k * 9 + 2, none⟩ = some (.int .i64 ns[k].1.1.2.2) ∧
    w.cell? ⟨b, off + k * 9 + 3, none⟩ = some (.int .i64 ns[k].1.2.1) ∧
    w.cell? ⟨b, off + k * 9 + 4, none⟩ = some (.int .i64 ns[k].1.2.2.1) ∧
    w.cell? ⟨b, off + k * 9 + 5, none⟩ = some (.int .i64 ns[k].1.2.2.2) ∧
    w.cell? ⟨b, off + k * 9 + 6, none⟩ = some (.int .i64 ns[k].2.1) ∧
    w.cell? ⟨b, off + k * 9 + 7, none⟩ = some (.int .i64 ns[k].2.2.1) ∧
    w.cell? ⟨b, off + k * 9 + 8, none⟩ = some (.int .i64 ns[k].2.2.2) := by
  obtain ⟨_, _, e, _, hS⟩ := h
  cases e
  obtain ⟨b, off, rfl, hb, hc⟩ := hS.resolve_left (by omega)
  refine ⟨b, off, rfl, hb, ?_⟩
  have h := hc k hk
  exact ⟨h 0 (by omega), h 1 (by omega), h 2 (by omega), h 3 (by omega), h 4 (by omega), h 5 (by omega), h 6 (by omega), h 7 (by omega), h 8 (by omega)⟩

theorem nodes_val {w : World} {v : Value} {ns : List Nd} (h : Nodes w v ns) : ∃ a cap, v = .slice a ns.length cap := by
  obtain ⟨a, cap, e, _⟩ := h
  exact ⟨a, cap, e⟩

theorem ncells_len (d : Nd) : (ncells d).length = 9 := rfl

theorem ncells_one (d : Nd) : ∀ u ∈ ncells d, u.oneCell' = true := by
  intro u hu
  simp only [ncells, List.mem_cons, List.not_mem_nil, or_false] at hu
  rcases hu with rfl | rfl | rfl | rfl | rfl | rfl | rfl | rfl | rfl <;> rfl

end
end Go.Proofs.YtomlcglnkdfemaaGreat
