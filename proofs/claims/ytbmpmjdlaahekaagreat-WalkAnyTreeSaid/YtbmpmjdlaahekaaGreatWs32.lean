/- Contracts of the document's own answers, layer 10 (Right and Coord, wh -/
import Derived.Laws.OwnMore
import Derived.Test.YtbmpmjdlaahekaaGreatWs28
set_option maxRecDepth 100000
set_option maxHeartbeats 8000000
set_option linter.unusedVariables false
set_option linter.unusedSimpArgs false
open Go.Proofs.Tryz
namespace Go.Proofs.YtbmpmjdlaahekaaGreat
section
open Go.RowKit Go.Proofs.Sky
theorem z0p (a1 a2 a3 a4 a5 a6 : Int) (w : World) :
  Rt prog 65 #[.agg #[a1, a2, a3, a4, a5, a6]] w (.bool (bRight ((a1, a2, a3), (a4, a5, a6)))) := by
 have N1 := zh (fun w => z0b a1 a2 a3 w)
 have N2 := zh (fun w => z0b a4 a5 a6 w)
 unfold bRight nrT
 dsimp only
 generalize vnear a1 a2 a3 = v1 at *
 generalize vnear a4 a5 a6 = v2 at *
 cases v1 with
 | false =>
  rw [show (false && (v2 && decide (a1 ≤ a4 ∧ a2 ≤ a5 ∧ a3 ≤ a6))) = false by rfl]
  go_enter func65, ntmps65
  go_upto_region 1 with (fail)
  refine wst1 fun W1 kb B1 => ?_
  have cb := bwc6 kb
  refine bws fun p1 => ?_
  go_wp2_with ((go_at_call 20; (first | (with_reducible refine (z02 N1.out _).mono ?_) | (with_reducible refine (z02 N2.out _).mono ?_)); rintro e w' ⟨rfl, q, rfl⟩))
  go_ret
  exact ⟨rfl, z00 B1 _⟩
 | true =>
  cases v2 with
  | false =>
   rw [show (true && (false && decide (a1 ≤ a4 ∧ a2 ≤ a5 ∧ a3 ≤ a6))) = false by rfl]
   go_enter func65, ntmps65
   go_upto_region 1 with (fail)
   refine wst1 fun W1 kb B1 => ?_
   have cb := bwc6 kb
   refine bws fun p1 => ?_
   go_wp2_with ((go_at_call 20; (first | (with_reducible refine (z02 N1.out _).mono ?_) | (with_reducible refine (z02 N2.out _).mono ?_)); rintro e w' ⟨rfl, q, rfl⟩))
   go_ret
   exact ⟨rfl, z00 B1 _⟩
  | true =>
   by_cases h1 : a1 ≤ a4
   · by_cases h2 : a2 ≤ a5
     · by_cases h3 : a3 ≤ a6
       · rw [show (true && (true && decide (a1 ≤ a4 ∧ a2 ≤ a5 ∧ a3 ≤ a6))) = true by simp; omega]
         have t1 : decide (a1 ≤ a4) = true := zt h1
         have t2 : decide (a2 ≤ a5) = true := zt h2
         have t3 : decide (a3 ≤ a6) = true := zt h3
         clear h1 h2 h3
         go_enter func65, ntmps65
         go_upto_region 1 with (fail)
         refine wst1 fun W1 kb B1 => ?_
         have cb := bwc6 kb
         refine bws fun p1 => ?_
         go_wp2_with ((go_at_call 20; (first | (with_reducible refine (z02 N1.out _).mono ?_) | (with_reducible refine (z02 N2.out _).mono ?_)); rintro e w' ⟨rfl, q, rfl⟩))
         go_ret
         exact ⟨rfl, z00 B1 _⟩
       · rw [show (true && (true && decide (a1 ≤ a4 ∧ a2 ≤ a5 ∧ a3 ≤ a6))) = false by simp; omega]
         have t1 : decide (a1 ≤ a4) = true := zt h1
         have t2 : decide (a2 ≤ a5) = true := zt h2
         have t3 : decide (a3 ≤ a6) = false := zf h3
         clear h1 h2 h3
         go_enter func65, ntmps65
         go_upto_region 1 with (fail)
         refine wst1 fun W1 kb B1 => ?_
         have cb := bwc6 kb
         refine bws fun p1 => ?_
         go_wp2_with ((go_at_call 20; (first | (with_reducible refine (z02 N1.out _).mono ?_) | (with_reducible refine (z02 N2.out _).mono ?_)); rintro e w' ⟨rfl, q, rfl⟩))
         go_ret
         exact ⟨rfl, z00 B1 _⟩
     · rw [show (true && (true && decide (a1 ≤ a4 ∧ a2 ≤ a5 ∧ a3 ≤ a6))) = false by simp; omega]
       have t1 : decide (a1 ≤ a4) = true := zt h1
       have t2 : decide (a2 ≤ a5) = false := zf h2
       clear h1 h2
       go_enter func65, ntmps65
       go_upto_region 1 with (fail)
       refine wst1 fun W1 kb B1 => ?_
       have cb := bwc6 kb
       refine bws fun p1 => ?_
       go_wp2_with ((go_at_call 20; (first | (with_reducible refine (z02 N1.out _).mono ?_) | (with_reducible refine (z02 N2.out _).mono ?_)); rintro e w' ⟨rfl, q, rfl⟩))
       go_ret
       exact ⟨rfl, z00 B1 _⟩
   · rw [show (true && (true && decide (a1 ≤ a4 ∧ a2 ≤ a5 ∧ a3 ≤ a6))) = false by simp; omega]
     have t1 : decide (a1 ≤ a4) = false := zf h1
     clear h1
     go_enter func65, ntmps65
     go_upto_region 1 with (fail)
     refine wst1 fun W1 kb B1 => ?_
     have cb := bwc6 kb
     refine bws fun p1 => ?_
     go_wp2_with ((go_at_call 20; (first | (with_reducible refine (z02 N1.out _).mono ?_) | (with_reducible refine (z02 N2.out _).mono ?_)); rintro e w' ⟨rfl, q, rfl⟩))
     go_ret
     exact ⟨rfl, z00 B1 _⟩
theorem z16 (x y z i : Int) (w : World) :
  Rt prog 66 #[.agg #[x, y, z], i] w (.int .i64 (crd (x, y, z) i)) := by
 by_cases h0 : i = 0
 · subst h0
   rw [show crd (x, y, z) 0 = x from rfl]
   go_enter func66, ntmps66
   go_upto_region 1 with (fail)
   refine wst1 fun W1 kv B1 => ?_
   have cv := bwc3 kv
   refine bws fun p1 => ?_
   go_wp2
   go_ret
   exact ⟨rfl, z00 B1 _⟩
 · by_cases h1 : i = 1
   · subst h1
     rw [show crd (x, y, z) 1 = y from rfl]
     go_enter func66, ntmps66
     go_upto_region 1 with (fail)
     refine wst1 fun W1 kv B1 => ?_
     have cv := bwc3 kv
     refine bws fun p1 => ?_
     go_wp2
     go_ret
     exact ⟨rfl, z00 B1 _⟩
   · rw [show crd (x, y, z) i = z by unfold crd; rw [if_neg h0, if_neg h1]]
     have t0 : decide (i = 0) = false := zf h0
     have t1 : decide (i = 1) = false := zf h1
     go_enter func66, ntmps66
     go_upto_region 1 with (fail)
     refine wst1 fun W1 kv B1 => ?_
     have cv := bwc3 kv
     refine bws fun p1 => ?_
     go_wp2
     go_ret
     exact ⟨rfl, z00 B1 _⟩
end
section
open Go.RowKit Go.Proofs.Sky
def pcells (p : Pr) : List Value := [.int .i64 p.k, .int .i64 p.a.1, .int .i64 p.a.2.1, .int .i64 p.a.2.2, .int .i64 p.b.1, .int .i64 p.b.2.1, .int .i64 p.b.2.2, .int .i64 p.c.1, .int .i64 p.c.2.1, .int .i64 p.c.2.2, .int .i64 p.r, .int .i64 p.m]
def hcells (h : H3) : List Value := [.int .i64 h.1, .int .i64 h.2.1, .int .i64 h.2.2]
theorem hcells_len (h : H3) : (hcells h).length = 3 := rfl
def Prims (w : World) (v : Value) (n : Nat) (P : Nat → Pr) : Prop := Sl w v n 12 (fun i => pcells (P i)) ∧ ∀ i, i < n → (P i).I
theorem Prims.below {w w' : World} {B : Nat} {v : Value} {n : Nat} {P : Nat → Pr} (h : Prims w v n P) (hb : Below B w w') (hB : w.heap.size ≤ B) : Prims w' v n P := ⟨h.1.below hb hB, h.2⟩
def Hits (w : World) (v : Value) (l : List H3) : Prop := Sll w v 3 hcells l
theorem flat_hits_next (P : Nat → Pr) (k : Nat) (o d : T3) (fr : Int) (h : (pHit (P k) k o d fr).2 = true) : (hUp P (k + 1) o d fr).length = (hUp P k o d fr).length + 1 ∧ (hUp P (k + 1) o d fr).flatMap hcells = (hUp P k o d fr).flatMap hcells ++ [.int .i64 (k : Int), .int .i64 (pHit (P k) k o d fr).1.1, .int .i64 (pHit (P k) k o d fr).1.2] := by
 rw [hUp_succ, hitAt_yes h, List.length_append, List.flatMap_append]
 exact ⟨rfl, rfl⟩
theorem flat_hits_same (P : Nat → Pr) (k : Nat) (o d : T3) (fr : Int) (h : (pHit (P k) k o d fr).2 = false) : hUp P (k + 1) o d fr = hUp P k o d fr := by
 rw [hUp_succ, hitAt_no h, List.append_nil]
end
section
open Go.RowKit Go.Proofs.Sky
theorem owns_take {w : World} {B : Nat} {e : TypeId} {size n m cap : Nat} {a : Option Addr} {xs : List Value} (h : w.ownsRow B e size (.slice a n cap) n xs) (hm : m ≤ n) :
  w.ownsRow B e size (.slice a m cap) m (xs.take (m * size)) := by
 obtain ⟨hl, h⟩ := h
 have hle : m * size ≤ n * size := Nat.mul_le_mul_right _ hm
 rcases h with ⟨e1, h0⟩ | ⟨g, cap', cur, e1, hB, hg, hnc, hcm, hcs, ht⟩
 · cases e1
   have : m = 0 := by omega
   subst this
   exact ⟨by simp, .inl ⟨rfl, rfl⟩⟩
 · cases e1
   refine ⟨by rw [List.length_take]; omega, .inr ⟨g, _, cur, rfl, hB, hg, by omega, hcm, hcs, ?_⟩⟩
   rw [← ht, List.take_take, Nat.min_eq_left hle]
theorem z1a {w : World} {B : Nat} {e : TypeId} {size n : Nat} {v : Value} {xs : List Value} (h : w.ownsRow B e size v n xs) (hn : 0 < n) : ∃ g cap, v = .slice (some ⟨g, 0, none⟩) n cap ∧ B ≤ g ∧ g < w.heap.size ∧ n ≤ cap := by
 obtain ⟨hl, ⟨_, h0⟩ | ⟨g, cap', cur, e1, hB, hg, hnc, _⟩⟩ := h
 · omega
 · exact ⟨g, cap', e1, hB, (Array.getElem?_eq_some_iff.1 hg).1, hnc⟩
theorem z0d {w : World} {B : Nat} {e : TypeId} {size n : Nat} {v : Value} {xs : List Value} (h : w.ownsRow B e size v n xs) : ∃ a cap, v = .slice a n cap := by
 obtain ⟨hl, ⟨e1, h0⟩ | ⟨g, cap', cur, e1, _⟩⟩ := h
 · exact ⟨none, 0, by rw [e1, h0]⟩
 · exact ⟨_, _, e1⟩
theorem owns_at {α : Type} {w : World} {B : Nat} {e : TypeId} {size n cap g : Nat} {f : α → List Value} {l : List α} (hf : ∀ x, (f x).length = size) (h : w.ownsRow B e size (.slice (some ⟨g, 0, none⟩) n cap) n (l.flatMap f)) {i j : Nat} (hi : i < l.length) (hj : j < size) :
  w.cell? ⟨g, i * size + j, none⟩ = (f l[i])[j]? := by
 have hl := h.1
 rw [flat_len f size hf] at hl
 have h1 : i * size + j < n * size := by
  rw [← hl]
  have : (i + 1) * size ≤ l.length * size := Nat.mul_le_mul_right _ hi
  rw [Nat.succ_mul] at this
  omega
 rw [h.cellAt _ h1]
 exact flat_at f size hf l i hi j hj
theorem z1h (w : World) (cs : Array Value) (t : TypeId) : ∀ j u, cs.toList[j]? = some u → (w.alloc (.cells cs t)).cell? ((⟨w.heap.size, 0, none⟩ : Addr).add j) = some u := by
 intro j u hj
 have h := (Bk.new w cs t).cell (i := j) (v := u) (by simpa using hj)
 by_cases h0 : j = 0
 · subst h0; exact h
 · simpa [Addr.add, h0] using h
theorem run_append_none16 {P : Program} {w : World} (t ty e : TypeId) (i : TypeInfo) (ht : P.underlying t = some (.slice e)) (hi : P.info? e = some i) (cap : Nat) :
  (Builtin.append_ #[t, t] ty #[.slice none 0 0, .slice none 0 cap]).run P w = .ok (.slice none 0 0) w := by
 simp [Builtin.append_, run_underlying ht, sizeOf, typeInfo, hi, Builtin.lenOf, Builtin.firstCells]
theorem wpList_append_row16 {P : Program} {w : World} {ops : Array Oper} {rest : List Oper} {o : Oper} {a : Act} {Q : Exit → Act → World → Prop} (hgd : o.guard = none) (s x : Operand) (t : TypeId)
  (ho : o.op = .call { callee := .builtin .append, args := #[s, x], argTypes := #[t, t] })
  (base : Nat) (e : TypeId) (i : TypeInfo) (z : Value) (size bytes : Nat) (ht : P.underlying t = some (.slice e)) (hi : P.info? e = some i) (hz : i.zero = some z)
  (hsize : i.size = size) (hby : i.bytes = bytes) (hzs : z.cells.size = size) (hsz : 0 < size) (hs : a.eval s = .slice none 0 0)
  (src : Option Addr) (m cap : Nat) (news : List Value) (hx : a.eval x = .slice src m cap) (hl : news.length = m * size) (hnews : m = 0 ∨ ∃ ad, src = some ad ∧ ∀ j u, news[j]? = some u → w.cell? (ad.add j) = some u) (h1 : ∀ u ∈ news, u.oneCell' = true)
  (h63 : m ≤ maxLen) (hbytes : m * bytes ≤ 140737488355328) (hbase : base ≤ w.heap.size)
  (h : ∀ v' w', w'.ownsRow base e size v' m news → w.grownBy w' none → wpList P ops Q rest (a.put o.dst v') w') : wpList P ops Q (o :: rest) a w := by
 cases src with
 | none =>
  have hm : m = 0 := by
   rcases hnews with h | ⟨_, h, _⟩
   · exact h
   · cases h
  subst hm
  have hn : news = [] := List.length_eq_zero_iff.1 (by simpa using hl)
  subst hn
  refine wpList_plain hgd fun K hK => ?_
  have hrun := run_append_none16 (P := P) (w := w) t o.type e i ht hi cap
  unfold Oper.wp
  simp [execOp, ho, resolve, invoke, builtin, hs, hx, hrun, Result.andThen]
  exact hK _ _ (h _ _ (World.ownsRow_nil _ _ _ _) ⟨rfl, rfl, rfl, Nat.le_refl _, fun _ _ _ => rfl⟩)
 | some ad =>
  refine wpList_append_own w hgd s x t ho base e i z size bytes ht hi hz hsize hby hzs hsz (.slice none 0 0) 0 [] hs (World.ownsRow_nil _ _ _ _) ad m cap news hx hl ?_ h1 (by omega) (by rw [Nat.zero_add]; exact hbytes) hbase ?_
  · intro j u hj
    rcases hnews with h | ⟨ad', h, hc⟩
    · subst h
      have hn : news = [] := List.length_eq_zero_iff.1 (by simpa using hl)
      subst hn
      cases hj
    · cases h
      exact hc j u hj
  · intro v' w' h2 h3 _
    rw [Nat.zero_add, List.nil_append] at h2
    exact h v' w' h2 h3
theorem bcells_len16 (b : Bx) : (bcells b).length = 6 := rfl
theorem bcells_one (b : Bx) : ∀ u ∈ bcells b, u.oneCell' = true := by
 intro u hu
 simp only [bcells, List.mem_cons, List.not_mem_nil, or_false] at hu
 rcases hu with rfl | rfl | rfl | rfl | rfl | rfl <;> rfl
theorem nodes_at {w : World} {a : Option Addr} {n cap : Nat} {ns : List Nd} (h : Nodes w (.slice a n cap) ns) {k : Nat} (hk : k < ns.length) : ∃ b off, a = some ⟨b, off, none⟩ ∧ b < w.heap.size ∧
  w.cell? ⟨b, off + k * 9, none⟩ = some (.int .i64 ns[k].1.1.1) ∧
  w.cell? ⟨b, off + k * 9 + 1, none⟩ = some (.int .i64 ns[k].1.1.2.1) ∧
  w.cell? ⟨b, off + k * 9 + 2, none⟩ = some (.int .i64 ns[k].1.1.2.2) ∧
  w.cell? ⟨b, off + k * 9 + 3, none⟩ = some (.int .i64 ns[k].1.2.1) ∧
  w.cell? ⟨b, off + k * 9 + 4, none⟩ = some (.int .i64 ns[k].1.2.2.1) ∧
  w.cell? ⟨b, off + k * 9 + 5, none⟩ = some (.int .i64 ns[k].1.2.2.2) ∧
  w.cell? ⟨b, off + k * 9 + 6, none⟩ = some (.int .i64 ns[k].2.1) ∧
  w.cell? ⟨b, off + k * 9 + 7, none⟩ = some (.int .i64 ns[k].2.2.1) ∧
  w.cell? ⟨b, off + k * 9 + 8, none⟩ = some (.int .i64 ns[k].2.2.2) := by
 obtain ⟨_, _, e, _, hS⟩ := h
 cases e
 obtain ⟨b, off, rfl, hb, hc⟩ := hS.resolve_left (by omega)
 refine ⟨b, off, rfl, hb, ?_⟩
 have h := hc k hk
 exact ⟨h 0 (by omega), h 1 (by omega), h 2 (by omega), h 3 (by omega), h 4 (by omega), h 5 (by omega), h 6 (by omega), h 7 (by omega), h 8 (by omega)⟩
theorem nodes_val {w : World} {v : Value} {ns : List Nd} (h : Nodes w v ns) : ∃ a cap, v = .slice a ns.length cap := by
 obtain ⟨a, cap, e, _⟩ := h
 exact ⟨a, cap, e⟩
theorem ncells_len (d : Nd) : (ncells d).length = 9 := rfl
theorem ncells_one (d : Nd) : ∀ u ∈ ncells d, u.oneCell' = true := by
 intro u hu
 simp only [ncells, List.mem_cons, List.not_mem_nil, or_false] at hu
 rcases hu with rfl | rfl | rfl | rfl | rfl | rfl | rfl | rfl | rfl <;> rfl
end
section
section
open Go.RowKit Go.Proofs.Sky
end
end
section
section
open Go.RowKit Go.Proofs.Sky
end
end
section
section
open Go.RowKit Go.Proofs.Sky
end
end
section
open Go.RowKit Go.Proofs.Sky
abbrev Pc := Value × List Nat × Option Nat
def NodRow (w : World) (B : Nat) (v : Value) (l : List Nd) : Prop := w.ownsRow B 66 9 v l.length (l.flatMap ncells)
theorem NodRow.below {w w' : World} {B : Nat} {v : Value} {l : List Nd} (h : NodRow w B v l) (hb : Below w.heap.size w w') : NodRow w' B v l := z07 h hb
theorem nodrow_alloc {w W : World} {B : Nat} {v : Value} {l : List Nd} {o : Obj} (hW : W = w.alloc o) (h : NodRow w B v l) : NodRow W B v l := by
 subst hW; exact World.ownsRow.alloc h o
theorem nodrow_nodes {w : World} {B : Nat} {v : Value} {l : List Nd} (h : NodRow w B v l) (hn : l.length ≤ 1048576) : Nodes w v l :=
 owns_sll (f := ncells) ncells_len (by omega) rfl (by unfold maxLen; omega) h
theorem node_info : (Tryz.prog.info? 66).map (fun i => (i.zero, i.size, i.bytes)) = some (some (.agg #[.int .i64 0, .int .i64 0, .int .i64 0, .int .i64 0, .int .i64 0, .int .i64 0, .int .i64 0, .int .i64 0, .int .i64 0]), 9, 72) := by kernel_rfl
theorem z1e {w : World} {B C : Nat} {e e' : TypeId} {s s' n n' : Nat} {v v' : Value} {xs xs' : List Value} (h : w.ownsRow B e s v n xs) (h' : w.ownsRow C e' s' v' n' xs') (hne : e ≠ e') : Apart2 v v' := by
 intro j hj hj'
 obtain ⟨_, ⟨e1, _⟩ | ⟨g, cap, cur, e1, _, hg, _⟩⟩ := h
 · rw [e1] at hj; cases hj
 · obtain ⟨_, ⟨e2, _⟩ | ⟨g', cap', cur', e2, _, hg', _⟩⟩ := h'
   · rw [e2] at hj'; cases hj'
   · rw [e1] at hj; rw [e2] at hj'
     cases hj; cases hj'
     rw [hg] at hg'
     cases hg'
     exact hne rfl
theorem z0e {w : World} {B : Nat} {e t : TypeId} {s n b : Nat} {v : Value} {xs : List Value} {cs : Array Value} (h : w.ownsRow B e s v n xs) (hb : Bk w b t cs) (hne : e ≠ t) : v.ownBlock ≠ some b := by
 intro hj
 obtain ⟨_, ⟨e1, _⟩ | ⟨g, cap, cur, e1, _, hg, _⟩⟩ := h
 · rw [e1] at hj; cases hj
 · rw [e1] at hj
   cases hj
   have h2 : w.heap[g]? = some (.cells cs t (0, 0)) := hb
   rw [hg] at h2
   cases h2
   exact hne rfl
theorem z0f {w : World} {B : Nat} {e : TypeId} {size n : Nat} {v : Value} {xs : List Value} (h : w.ownsRow B e size v n xs) {a : Addr} (ha : v.ownBlock ≠ some a.block) (x : Value) : (w.setCell a x).ownsRow B e size v n xs := by
 obtain ⟨hl, h⟩ := h
 refine ⟨hl, ?_⟩
 rcases h with h | ⟨g, cap, cur, e1, hB, hg, rest⟩
 · exact .inl h
 · exact .inr ⟨g, cap, cur, e1, hB, (Below.heap_setCell w a x g (fun e2 => ha (by rw [e1, ← e2]; rfl))).trans hg, rest⟩
theorem z0q {w w' : World} {B : Nat} {e t : TypeId} {size n b : Nat} {v : Value} {xs : List Value} {cs : Array Value} (h : w.ownsRow B e size v n xs) (hb : Bk w b t cs) (hne : e ≠ t) (hg : w.grownBy w' v.ownBlock) : Bk w' b t cs :=
 Bk.grown hb hg (fun e2 => z0e h hb hne e2.symm)
variable {w w' W : World} {B b : Nat} {ub un uo us : Value} {bx : List Bx} {ns : List Nd} {od : List Nat} {X : List Pc}
theorem z1b {u v : Value} (h : Apart2 u v) : ∀ j, v.ownBlock = some j → u.ownBlock ≠ some j := fun j hj e => h j e hj
end
end Go.Proofs.YtbmpmjdlaahekaaGreat
namespace Go.Proofs.Sky
section
open Go.ChangeShapes Go.WideShapes Go.RowKit
theorem open_rows16 {P : Program} {H : Type} {enc : TypeId × Value → H} {W : World} {n fuel : Nat} {t e : TypeId} {ks : List LK} {v : Value} {x : DataW H × List MemPlace} (ht : P.underlying t = some (.slice e)) (hk : flat P n e = some ks)
  (hc : P.cellsOf e = ks.length) (h0 : 0 < ks.length) (hf : DataW.trod enc P W 0 (fun _ => true) true fuel t [v] = some x) :
  ∃ (a : Option Addr) (len cap : Nat) (V : Nat → List Value), v = .slice a len cap ∧ len ≤ cap ∧ len ≤ maxLen ∧ (len = 0 ∨ ∃ b off, a = some ⟨b, off, none⟩ ∧ RowsAt W b off len ks.length ks V ∧ b < W.heap.size) := by
 rcases Go.Deep.open_slice ht hf with ⟨hc', hx⟩ | ⟨A, len, cap, m, k, D, Pl, hc', _, hl, hm, hmm, hx, hall⟩
 · cases hc'
   exact ⟨_, 0, 0, fun _ => [], rfl, by omega, by unfold maxLen; omega, .inl rfl⟩
 · cases hc'
   rw [if_pos rfl] at hmm
   obtain ⟨V, hV⟩ := Go.Deep.choose_lt (α := List Value) (p := fun i cs => LeafAll ks cs ∧ ∀ j, j < ks.length → W.cell? (A.add (i * ks.length + j)) = cs[j]?) (n := len) (fun i hi => by
    obtain ⟨cs, h1, h2⟩ := hall i (by omega)
    have hL := flat_trod n e ks hk _ _ _ h2
    obtain ⟨_, hlen, hcell⟩ := World.cells?_some h1
    refine ⟨cs, hL, fun j hj => ?_⟩
    have := hcell j (by omega)
    rw [Go.Deep.add_add, hc] at this
    exact this)
   refine ⟨_, len, cap, V, rfl, hl, by omega, ?_⟩
   by_cases hz : len = 0
   · exact .inl hz
   · right
     have hsp : A.spot = none := by
      have g := hV 0 (by omega)
      have hl0 := g.1.length
      have h1 := g.2 0 h0
      rw [List.getElem?_eq_getElem (by omega)] at h1
      have := World.cell?_spot h1
      simpa [Addr.add] using this
     obtain ⟨b, off, sp⟩ := A
     simp only at hsp
     subst hsp
     have adds : ∀ i, (⟨b, off, none⟩ : Addr).add i = ⟨b, off + i, none⟩ := fun i => by
      unfold Addr.add; split
      · rename_i h; rw [h]; rfl
      · rfl
     refine ⟨b, off, rfl, fun i hi => ⟨(hV i hi).1, fun j hj => ?_⟩, ?_⟩
     · have := (hV i hi).2 j hj
       rw [adds, ← Nat.add_assoc] at this
       exact this
     · have g := hV 0 (by omega)
       have hl0 := g.1.length
       have h1 := g.2 0 h0
       rw [List.getElem?_eq_getElem (by omega)] at h1
       rw [adds] at h1
       exact World.block_lt_of_cell? W _ h1
end
end Go.Proofs.Sky
namespace Go.Proofs.YtbmpmjdlaahekaaGreat
section
open Go.RowKit Go.Proofs.Sky
end
end Go.Proofs.YtbmpmjdlaahekaaGreat
