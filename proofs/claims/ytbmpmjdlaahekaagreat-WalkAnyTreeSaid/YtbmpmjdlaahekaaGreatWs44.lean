/- Rows that a call made: some of their cells written. The statements' ow -/
import Derived.Test.YtbmpmjdlaahekaaGreatWs38
import Derived.Test.YtbmpmjdlaahekaaGreatWs40
set_option maxRecDepth 100000
set_option maxHeartbeats 8000000
set_option linter.unusedVariables false
set_option linter.unusedSimpArgs false
open Go.Proofs.Tryz
namespace Go.Proofs.YtbmpmjdlaahekaaGreat
section
open Go.RowKit Go.Proofs.Sky
theorem owns_store {B : Nat} {e : TypeId} {size n cap g : Nat} : ∀ (vs : List Value) (o : Nat) (w : World) (xs : List Value), w.ownsRow B e size (.slice (some ⟨g, 0, none⟩) n cap) n xs → o + vs.length ≤ xs.length →
  (w.setCells g o vs).ownsRow B e size (.slice (some ⟨g, 0, none⟩) n cap) n (xs.take o ++ vs ++ xs.drop (o + vs.length)) ∧ w.grownBy (w.setCells g o vs) (some g)
 | [], o, w, xs, h, hl => by
  refine ⟨?_, ⟨rfl, rfl, rfl, Nat.le_refl _, fun _ _ _ => rfl⟩⟩
  show w.ownsRow B e size _ n _
  rw [List.append_nil, List.length_nil, Nat.add_zero, List.take_append_drop]
  exact h
 | v :: vs, o, w, xs, h, hl => by
  have h1 := World.ownsRow.stored h o v
  have h2 := owns_store vs (o + 1) _ _ h1.1 (by simp at hl ⊢; omega)
  refine ⟨?_, World.grownBy.trans h1.2 h2.2⟩
  show ((w.setCell ⟨g, o, none⟩ v).setCells g (o + 1) vs).ownsRow B e size _ n _
  have e1 : (xs.set o v).take (o + 1) ++ vs ++ (xs.set o v).drop (o + 1 + vs.length) = xs.take o ++ (v :: vs) ++ xs.drop (o + (v :: vs).length) := by
   have hlo : o < xs.length := by simp at hl; omega
   apply List.ext_getElem?
   intro i
   simp only [List.append_assoc, List.getElem?_append, List.length_take, List.length_set, List.getElem?_take, List.getElem?_drop, List.getElem?_set, List.length_cons]
   have q1 : min (o + 1) xs.length = o + 1 := by omega
   have q2 : min o xs.length = o := by omega
   rw [q1, q2]
   by_cases h1 : i < o
   · rw [if_pos (by omega), if_pos (by omega), if_neg (by omega), if_pos h1, if_pos h1]
   · by_cases h2 : i = o
     · subst h2
       rw [if_pos (by omega), if_pos (by omega), if_pos rfl, if_pos hlo, if_neg (by omega), Nat.sub_self]
       simp
     · rw [if_neg (by omega), if_neg h1]
       have e3 : i - o = (i - (o + 1)) + 1 := by omega
       simp only [e3, List.getElem?_cons_succ]
       by_cases h3 : i - (o + 1) < vs.length
       · rw [if_pos h3, if_pos (by omega)]
       · rw [if_neg h3, if_neg (by omega), if_neg (by omega)]
         congr 1
         omega
  rw [← e1]
  exact h2.1
theorem flat_store {α : Type} (f : α → List Value) (c : Nat) (hf : ∀ x, (f x).length = c) : ∀ (l : List α) (i : Nat) (x : α), i < l.length → (l.flatMap f).take (i * c) ++ f x ++ (l.flatMap f).drop (i * c + c) = (l.set i x).flatMap f
 | [], i, x, h => by simp at h
 | y :: l, 0, x, _ => by
  rw [Nat.zero_mul, Nat.zero_add, List.take_zero, List.nil_append, List.flatMap_cons, ← hf y, List.drop_left]
  rfl
 | y :: l, i + 1, x, h => by
  have ih := flat_store f c hf l i x (by simpa using h)
  rw [List.set_cons_succ, List.flatMap_cons, List.flatMap_cons, ← ih, List.take_append, List.drop_append, hf, List.take_of_length_le (by rw [hf, Nat.succ_mul]; omega), List.drop_eq_nil_of_le (by rw [hf, Nat.succ_mul]; omega), List.nil_append,
   show (i + 1) * c - c = i * c by rw [Nat.succ_mul]; omega, show (i + 1) * c + c - c = i * c + c by rw [Nat.succ_mul]; omega]
  simp only [List.append_assoc]
end
section
open Go.RowKit Go.Proofs.Sky
theorem cells_new15 (w : World) (cs : List Value) (t : TypeId) : ∀ j u, cs[j]? = some u → (w.alloc (.cells cs.toArray t)).cell? ((⟨w.heap.size, 0, none⟩ : Addr).add j) = some u := fun j u hj => by
 have hadd : (⟨w.heap.size, 0, none⟩ : Addr).add j = ⟨w.heap.size, j, none⟩ := by unfold Addr.add; split <;> simp_all
 rw [hadd]
 refine (Bk.new w cs.toArray t).cell ?_
 rw [List.getElem?_toArray]
 exact hj
theorem cells_at15 {w : World} {g : Nat} {t : TypeId} {cs : List Value} (h : Bk w g t cs.toArray) : ∀ j u, cs[j]? = some u → w.cell? ((⟨g, 0, none⟩ : Addr).add j) = some u := fun j u hj => by
 have hadd : (⟨g, 0, none⟩ : Addr).add j = ⟨g, j, none⟩ := by unfold Addr.add; split <;> simp_all
 rw [hadd]
 refine h.cell ?_
 rw [List.getElem?_toArray]
 exact hj
end
section
open Go.RowKit Go.Proofs.Sky
end
section
open Go.RowKit Go.Proofs.Sky
theorem mnV_i64 (V : Nat → Bx) (n : Nat) (ax : Int) : I64 (mnV V n ax) ∧ I64 (mxV V n ax) := by
 have := mnV_in V n ax
 unfold I64
 omega
theorem bBest_i64 (V : Nat → Bx) (n : Nat) : I64 (bBest V n).1.1 ∧ I64 (bBest V n).1.2.2.1 ∧ I64 (bBest V n).1.2.2.2 := by
 rcases bBest_spec V n with e | ⟨a, k, ha, e, _⟩
 · rw [e]; unfold I64; dsimp only; omega
 · rw [e]
   have := mnV_i64 V n a
   refine ⟨?_, this.1, this.2⟩
   unfold I64; dsimp only; omega
end
section
open Go.RowKit Go.Proofs.Sky
end
section
open Go.RowKit Go.Proofs.Sky
end
section
open Go.RowKit Go.Shelf Go.Proofs.Sky
section
attribute [local go_sem] Oper.semAt_some
end
end
section
open Go.RowKit Go.Proofs.Sky
def OrdRow (w : World) (B : Nat) (v : Value) (ord : List Int) : Prop := w.ownsRow B 3 1 v ord.length (ord.map (Value.int .i64))
theorem ints_ord {w : World} {B : Nat} {v : Value} {l : List Nat} (h : Ints w B v l) : OrdRow w B v (l.map (fun k : Nat => (k : Int))) := by
 unfold OrdRow
 rw [List.length_map, List.map_map]
 exact h
theorem ordrow_slice {w : World} {B : Nat} {v : Value} {ord : List Int} (h : OrdRow w B v ord) (hi : ∀ x ∈ ord, I64 x) : ∃ a cap, v = .slice a ord.length cap ∧ ord.length ≤ cap ∧ IntSlice w a ord.length (fun i => ord.getD i 0) := by
 obtain ⟨hl, h⟩ := h
 rcases h with ⟨rfl, hz⟩ | ⟨g, cap, cur, rfl, hB, hg, hn, hms, hs, hx⟩
 · exact ⟨none, 0, by rw [hz], by omega, .inl hz⟩
 · refine ⟨_, cap, rfl, hn, .inr ⟨g, 0, rfl, fun k hlt => ?_, (Array.getElem?_eq_some_iff.1 hg).1⟩⟩
   have e : ord.getD k 0 = ord[k] := z0g hlt
   have e1 : (ord.map (Value.int .i64))[k]? = some (.int .i64 ord[k]) := by rw [List.getElem?_map, List.getElem?_eq_getElem hlt]; rfl
   refine ⟨?_, by dsimp only; rw [e]; exact hi _ (List.getElem_mem _)⟩
   rw [← hx, List.getElem?_take, if_pos (by omega)] at e1
   show w.cell? ⟨g, 0 + k, none⟩ = some (.int .i64 (ord.getD k 0))
   rw [Nat.zero_add, e]
   simp only [World.cell?, hg]
   simpa using e1
theorem intslice_row {w : World} {a : Option Addr} {ord : List Int} (h : IntSlice w a ord.length (fun i => ord.getD i 0)) : ord.length = 0 ∨ ∃ ad, a = some ad ∧ ∀ j u, (ord.map (Value.int .i64))[j]? = some u → w.cell? (ad.add j) = some u := by
 rcases h with h | ⟨b, off, rfl, hc, hb⟩
 · exact .inl h
 · refine .inr ⟨_, rfl, fun j u hj => ?_⟩
   rw [List.getElem?_map] at hj
   have hlt : j < ord.length := by
    rcases Nat.lt_or_ge j ord.length with q | q
    · exact q
    · rw [List.getElem?_eq_none q] at hj; cases hj
   rw [List.getElem?_eq_getElem hlt] at hj
   cases hj
   have h1 := (hc j hlt).1
   dsimp only at h1
   rw [z0g hlt] at h1
   by_cases h0 : j = 0
   · subst h0; exact h1
   · simpa [Addr.add, h0] using h1
theorem intslice_i64 {w : World} {a : Option Addr} {ord : List Int} (h : IntSlice w a ord.length (fun i => ord.getD i 0)) : ∀ x ∈ ord, I64 x := by
 intro x hx
 obtain ⟨k, hk, rfl⟩ := List.getElem_of_mem hx
 rcases h with h | ⟨b, off, _, hc, _⟩
 · omega
 · have := (hc k hk).2
   dsimp only at this
   rwa [z0g hk] at this
end
section
open Go.RowKit Go.Proofs.Sky
def RboxRow (w : World) (B : Nat) (v : Value) (l : List Bx) : Prop := w.ownsRow B 61 6 v l.length (l.flatMap bcells)
theorem RboxRow.below {w w' : World} {B : Nat} {v : Value} {l : List Bx} (h : RboxRow w B v l) (hb : Below w.heap.size w w') : RboxRow w' B v l := z07 h hb
theorem rbox_info16 : (Tryz.prog.info? 61).map (fun i => (i.zero, i.size, i.bytes)) = some (some (.agg #[.int .i64 0, .int .i64 0, .int .i64 0, .int .i64 0, .int .i64 0, .int .i64 0]), 6, 48) := by kernel_rfl
theorem rboxrow_boxes {w : World} {B : Nat} {v : Value} {U : Nat → Bx} {n : Nat} (h : RboxRow w B v (bls U n)) (hn : n ≤ 1048576) : Boxes w v n U ∧ ∃ a cap, v = .slice a n cap := by
 have hl := bls_len U n
 have hs := owns_sll (f := bcells) (l := bls U n) bcells_len16 (by omega) rfl (by rw [hl]; unfold maxLen; omega) h
 obtain ⟨a, cap, rfl, hm, h⟩ := hs
 rw [hl]
 refine ⟨⟨a, cap, rfl, by unfold maxLen; omega, ?_⟩, a, cap, rfl⟩
 rcases h with h | ⟨b, off, rfl, hlt, hc⟩
 · exact .inl (by rw [hl] at h; exact h)
 · refine .inr ⟨b, off, rfl, hlt, fun i hi j hj => ?_⟩
   have e : (bls U n)[i]'(by rw [hl]; exact hi) = U i := by simp [bls]
   rw [hc i (by rw [hl]; exact hi) j hj, e]
theorem ref16_boxes (a b : Option Addr) (n ca m cb : Nat) (P : Nat → Pr) (Z : Nat → Int) (w : World) (ha : Prims w (.slice a n ca) n P) (hb : IntSlice w b m Z) (hz : ∀ k, k < m → 0 ≤ Z k ∧ Z k < n) (hm : m ≤ 1024) :
  Calls prog 40 #[.slice a n ca, .slice b m cb] w fun e w' => ∃ u, e = .returned u ∧ RboxRow w' w.heap.size u (bls (fun k => pBox (P (Z k).toNat)) m) ∧ Below w.heap.size w w' := by
 obtain ⟨hsl, hI⟩ := ha
 obtain ⟨_, _, e, hmx, hS⟩ := hsl
 cases e
 have HS := zh hS
 have HI := zh hI
 have HB := zh hb
 have HZ := zh hz
 obtain ⟨i0, hi0, hz0, hz1, hz2⟩ := info_parts rbox_info16
 clear hS hI hb hz
 go_enter func40, ntmps40
 go_wp2
 go_loopw [5, 6] (fun u i wr => ∃ k : Nat, k ≤ m ∧ i = .int .i64 k ∧ RboxRow wr w.heap.size u (bls (fun k => pBox (P (Z k).toNat)) k) ∧ Below w.heap.size w wr) (fun _ i _ => m - (intOf i).toNat)
 case atStart => exact ⟨0, by omega, rfl, World.ownsRow_nil _ _ _ _, Below.refl _ _⟩
 case round =>
  obtain ⟨k, hk, rfl, hu, BO⟩ := hrel
  by_cases hlt : k < m
  · obtain ⟨bb, ob, rfl, hcb, hbb⟩ := HB.out.resolve_left (by omega)
    have y0 : w.cell? ⟨bb, ob + k, none⟩ = some (.int .i64 (Z k)) := (hcb k hlt).1
    have hr := HZ.out k hlt
    obtain ⟨j, hj⟩ : ∃ j : Nat, j = (Z k).toNat := ⟨_, rfl⟩
    have hjz : Z k = (j : Int) := by omega
    have hjn : j < n := by omega
    obtain ⟨b, off, rfl, hb, hcell⟩ := HS.out.resolve_left (by omega)
    have hx := hcell j hjn
    have hIj := HI.out j hjn
    have KB := zh (fun w => ref13_Box (P j) w hIj)
    rw [hjz] at y0
    have hT : bls (fun k => pBox (P (Z k).toNat)) (k + 1) = bls (fun k => pBox (P (Z k).toNat)) k ++ [pBox (P j)] := by rw [bls_succ, ← hj]
    obtain ⟨vk, hvk⟩ := nmd (pBox (P j))
    rw [← hvk] at KB hT
    have HT := zh hT
    clear hvk hT hcb hr hj hjz hIj
    have x0 : w.cell? ⟨b, off + j * 12, none⟩ = some (.int .i64 (P j).k) := hx 0 (by omega)
    have x1 : w.cell? ⟨b, off + j * 12 + 1, none⟩ = some (.int .i64 (P j).a.1) := hx 1 (by omega)
    have x2 : w.cell? ⟨b, off + j * 12 + 2, none⟩ = some (.int .i64 (P j).a.2.1) := hx 2 (by omega)
    have x3 : w.cell? ⟨b, off + j * 12 + 3, none⟩ = some (.int .i64 (P j).a.2.2) := hx 3 (by omega)
    have x4 : w.cell? ⟨b, off + j * 12 + 4, none⟩ = some (.int .i64 (P j).b.1) := hx 4 (by omega)
    have x5 : w.cell? ⟨b, off + j * 12 + 5, none⟩ = some (.int .i64 (P j).b.2.1) := hx 5 (by omega)
    have x6 : w.cell? ⟨b, off + j * 12 + 6, none⟩ = some (.int .i64 (P j).b.2.2) := hx 6 (by omega)
    have x7 : w.cell? ⟨b, off + j * 12 + 7, none⟩ = some (.int .i64 (P j).c.1) := hx 7 (by omega)
    have x8 : w.cell? ⟨b, off + j * 12 + 8, none⟩ = some (.int .i64 (P j).c.2.1) := hx 8 (by omega)
    have x9 : w.cell? ⟨b, off + j * 12 + 9, none⟩ = some (.int .i64 (P j).c.2.2) := hx 9 (by omega)
    have x10 : w.cell? ⟨b, off + j * 12 + 10, none⟩ = some (.int .i64 (P j).r) := hx 10 (by omega)
    have x11 : w.cell? ⟨b, off + j * 12 + 11, none⟩ = some (.int .i64 (P j).m) := hx 11 (by omega)
    clear hx hcell
    generalize P j = pk at KB x0 x1 x2 x3 x4 x5 x6 x7 x8 x9 x10 x11
    obtain ⟨kk, ⟨a1, a2, a3⟩, ⟨b1, b2, b3⟩, ⟨c1, c2, c3⟩, r, mm⟩ := pk
    obtain ⟨⟨v1, v2, v3⟩, v4, v5, v6⟩ := vk
    dsimp only at x0 x1 x2 x3 x4 x5 x6 x7 x8 x9 x10 x11 KB
    have hlu : (bls (fun k => pBox (P (Z k).toNat)) k).length = k := bls_len _ _
    generalize bls (fun k => pBox (P (Z k).toNat)) k = L at *
    have B1 := BO
    have cy : ∀ p : BW wr, p.w.cell? ⟨bb, ob + k, none⟩ = some (.int .i64 (j : Int)) := bwB B1 y0 hbb
    have ce0 := bwB B1 x0 hb
    have ce1 := bwB B1 x1 hb
    have ce2 := bwB B1 x2 hb
    have ce3 := bwB B1 x3 hb
    have ce4 := bwB B1 x4 hb
    have ce5 := bwB B1 x5 hb
    have ce6 := bwB B1 x6 hb
    have ce7 := bwB B1 x7 hb
    have ce8 := bwB B1 x8 hb
    have ce9 := bwB B1 x9 hb
    have ce10 := bwB B1 x10 hb
    have ce11 := bwB B1 x11 hb
    refine bws fun p1 => ?_
    go_wp2_with (first
     | (go_at_call 69; (with_reducible refine (z02 KB.out _).mono ?_); rintro e w' ⟨rfl, q, rfl⟩)
     | (at_builtin; refine z06 rfl _ _ 82 rfl w.heap.size 61 i0 _ 6 48 Tryz.underlying82 hi0 hz0 hz1 hz2 rfl (by decide) _ _ _ rfl (World.ownsRow.alloc (z07 hu (BW.h _)) _) ⟨_, 0, none⟩ 1 1 (bcells ((v1, v2, v3), (v4, v5, v6))) rfl rfl ?g1 ?g2 ?g3 ?g4 ?g5 ?_))
    case g1 => exact z1h _ #[v1, v2, v3, v4, v5, v6] _
    case g2 => exact bcells_one _
    case g3 => unfold maxLen; omega
    case g4 => omega
    case g5 => have := (z00 B1 q).size; simp; omega
    intro v' w1 hown hgrow hat
    have hb1 : Below w.heap.size w w1 := ((z00 B1 q).alloc (z00 B1 q).size _).grown hgrow (by have := (z00 B1 q).size; simp; omega) (fun j ej => by have := (World.ownsRow.lt hu _ ej).1; omega)
    have r1 : RboxRow w1 w.heap.size v' (L ++ [((v1, v2, v3), (v4, v5, v6))]) := by unfold RboxRow; rw [List.length_append, hlu, List.flatMap_append, List.flatMap_cons, List.flatMap_nil, List.append_nil]; exact hown
    go_wp2
    go_roundw
    case rel => exact ⟨k + 1, by omega, by go_num, (by rw [HT.out]; exact r1), hb1⟩
    case measure => simp [intOf]; omega
  · obtain rfl : k = m := by omega
    go_wp2
    go_ret
    exact ⟨_, rfl, hu, BO⟩
end
section
open Go.RowKit Go.Shelf Go.Proofs.Sky
noncomputable def bMet (ns : List Nd) (o d : T3) : Nat → Int
 | 0 => 0
 | k + 1 => bMet ns o d k + (if bHit (ns.getD k nd0).1 o d 0 0 = true then 1 else 0)
theorem bMet_succ (ns : List Nd) (o d : T3) (k : Nat) : bMet ns o d (k + 1) = bMet ns o d k + (if bHit (ns.getD k nd0).1 o d 0 0 = true then 1 else 0) := rfl
theorem bMet_in (ns : List Nd) (o d : T3) : ∀ k : Nat, 0 ≤ bMet ns o d k ∧ bMet ns o d k ≤ k
 | 0 => by unfold bMet; omega
 | k + 1 => by
  have := bMet_in ns o d k
  unfold bMet
  split <;> omega
theorem walk_Met (a ov : Option Addr) (N cap m co : Nat) (ns : List Nd) (o1 o2 o3 d1 d2 d3 fr : Int) (w : World) (hNl : N = ns.length) (hN : Nodes w (.slice a N cap) ns) (hns : N ≤ 1048576) :
  Rt prog 15 #[.agg #[.slice a N cap, .slice ov m co], .agg #[o1, o2, o3, d1, d2, d3, fr]] w (.int .i64 (bMet ns (o1, o2, o3) (d1, d2, d3) N)) := by
 have HNL := zh hNl
 have HN0 := zh hN
 clear hNl hN
 go_enter func15, ntmps15
 go_upto_region 1 with (fail)
 refine wst2 fun W1 kt ky B1 => ?_
 have ly : w.heap.size < w.heap.size + 1 := by omega
 generalize w.heap.size + 1 = gy at *
 have ct0 : W1.cell? ⟨w.heap.size, 0, none⟩ = some (.slice a N cap) := kt.cell rfl
 go_wp2
 clear ct0
 go_loopw [5, 11] (fun c i wr => ∃ k : Nat, k ≤ N ∧ c = .int .i64 (bMet ns (o1, o2, o3) (d1, d2, d3) k) ∧ i = .int .i64 (k : Int) ∧ Bk wr w.heap.size 35 #[.slice a N cap, .slice ov m co] ∧ Bk wr gy 26 #[o1, o2, o3, d1, d2, d3, fr] ∧ Below w.heap.size w wr) (fun _ i _ => N - (intOf i).toNat)
 case atStart => exact ⟨0, Nat.zero_le _, rfl, rfl, kt, ky, B1⟩
 case round =>
  clear kt ky B1
  obtain ⟨k, hk, rfl, rfl, kt, ky, B1⟩ := hrel
  have hbm := bMet_in ns (o1, o2, o3) (d1, d2, d3) k
  have HBM := zh (bMet_succ ns (o1, o2, o3) (d1, d2, d3) k)
  obtain ⟨cn, hcn⟩ := nmd (bMet ns (o1, o2, o3) (d1, d2, d3) k)
  rw [← hcn] at hbm HBM ⊢
  have HCN := zh hcn
  clear hcn
  by_cases hlt : k < N
  · have t1 : decide ((k : Int) < (N : Int)) = true := zt (by omega)
    have hpn : k < ns.length := by rw [← HNL.out]; exact hlt
    obtain ⟨an, capn, ean, hmx, hcell⟩ := HN0.out
    rw [← HNL.out] at ean
    cases ean
    obtain ⟨bb, off, rfl, hbb, hc⟩ := hcell.resolve_left (by rw [← HNL.out]; omega)
    have hx := hc k hpn
    have x0 : wr.cell? ⟨bb, off + k * 9, none⟩ = some (.int .i64 ns[k].1.1.1) := (B1.cell (p := ⟨bb, off + k * 9, none⟩) hbb).trans (hx 0 (by omega))
    have x1 : wr.cell? ⟨bb, off + k * 9 + 1, none⟩ = some (.int .i64 ns[k].1.1.2.1) := (B1.cell (p := ⟨bb, off + k * 9 + 1, none⟩) hbb).trans (hx 1 (by omega))
    have x2 : wr.cell? ⟨bb, off + k * 9 + 2, none⟩ = some (.int .i64 ns[k].1.1.2.2) := (B1.cell (p := ⟨bb, off + k * 9 + 2, none⟩) hbb).trans (hx 2 (by omega))
    have x3 : wr.cell? ⟨bb, off + k * 9 + 3, none⟩ = some (.int .i64 ns[k].1.2.1) := (B1.cell (p := ⟨bb, off + k * 9 + 3, none⟩) hbb).trans (hx 3 (by omega))
    have x4 : wr.cell? ⟨bb, off + k * 9 + 4, none⟩ = some (.int .i64 ns[k].1.2.2.1) := (B1.cell (p := ⟨bb, off + k * 9 + 4, none⟩) hbb).trans (hx 4 (by omega))
    have x5 : wr.cell? ⟨bb, off + k * 9 + 5, none⟩ = some (.int .i64 ns[k].1.2.2.2) := (B1.cell (p := ⟨bb, off + k * 9 + 5, none⟩) hbb).trans (hx 5 (by omega))
    have x6 : wr.cell? ⟨bb, off + k * 9 + 6, none⟩ = some (.int .i64 ns[k].2.1) := (B1.cell (p := ⟨bb, off + k * 9 + 6, none⟩) hbb).trans (hx 6 (by omega))
    have x7 : wr.cell? ⟨bb, off + k * 9 + 7, none⟩ = some (.int .i64 ns[k].2.2.1) := (B1.cell (p := ⟨bb, off + k * 9 + 7, none⟩) hbb).trans (hx 7 (by omega))
    have x8 : wr.cell? ⟨bb, off + k * 9 + 8, none⟩ = some (.int .i64 ns[k].2.2.2) := (B1.cell (p := ⟨bb, off + k * 9 + 8, none⟩) hbb).trans (hx 8 (by omega))
    obtain ⟨nd, hnd⟩ := nmd (ns[k])
    have HB2 : Hid (bMet ns (o1, o2, o3) (d1, d2, d3) (k + 1) = cn + (if bHit nd.1 (o1, o2, o3) (d1, d2, d3) 0 0 = true then 1 else 0)) := zh (by rw [HBM.out, z0g hpn, hnd])
    rw [← hnd] at x0 x1 x2 x3 x4 x5 x6 x7 x8
    clear hnd hx hc hcell HBM
    obtain ⟨⟨⟨n1, n2, n3⟩, n4, n5, n6⟩, fi, cc, ri⟩ := nd
    dsimp only at x0 x1 x2 x3 x4 x5 x6 x7 x8 HB2
    have KB := zh (fun w => box_Hit n1 n2 n3 n4 n5 n6 o1 o2 o3 d1 d2 d3 fr 0 0 w (by unfold I64; omega) (by unfold I64; omega))
    obtain ⟨bt, hbt⟩ := nmd (bHit ((n1, n2, n3), n4, n5, n6) (o1, o2, o3) (d1, d2, d3) 0 0)
    rw [← hbt] at KB HB2
    clear hbt
    go_upto_region 5 with (fail)
    refine wnm fun W2 hW2 => ?_
    have B2 : Below w.heap.size w W2 := by rw [hW2]; exact B1.alloc B1.size _
    have kt := bka hW2 kt
    have ky := bka hW2 ky
    have kn := bkn hW2
    clear hW2 B1 x0 x1 x2 x3 x4 x5 x6 x7 x8
    generalize wr.heap.size = gn at *
    have c_n := bwc9 kn
    have cy := bwc7 ky
    refine bws fun p1 => ?_
    cases bt with
    | true =>
     go_wp2_with (go_at_call 36; (with_reducible refine (z02 KB.out _).mono ?_); rintro e w' ⟨rfl, q, rfl⟩)
     go_roundw
     case rel => exact ⟨k + 1, by omega, by rw [HB2.out]; go_num, by go_num, kt.below (BW.h _), ky.below (BW.h _), z00 B2 _⟩
     case measure => simp [intOf]; omega
    | false =>
     go_wp2_with (go_at_call 36; (with_reducible refine (z02 KB.out _).mono ?_); rintro e w' ⟨rfl, q, rfl⟩)
     go_roundw
     case rel => exact ⟨k + 1, by omega, by rw [HB2.out]; simp, by go_num, kt.below (BW.h _), ky.below (BW.h _), z00 B2 _⟩
     case measure => simp [intOf]; omega
  · obtain rfl : k = N := by omega
    go_wp2
    go_ret
    exact ⟨by rw [← HCN.out]; rfl, B1⟩
end
end Go.Proofs.YtbmpmjdlaahekaaGreat
