/- Contracts of package word: a text's rows. -/
import Derived.Test.YtlhamgcmkodjeaaDoorRowo18
import Derived.Maps.OwnIn
namespace Go.Proofs.YtlhamgcmkodjeaaDoor
open Go.RowKit Go.Shelf Go.Proofs.Sky
set_option linter.unusedVariables false
set_option linter.unusedSimpArgs false

theorem tag_map (l : List (List UInt8)) : ∀ k, (tag k l).map (·.2) = l := by
  induction l with
  | nil => intro k; rfl
  | cons x l ih => intro k; simp [tag, ih]

theorem rowrow_own {β : Type} {B C : Nat} {e et : TypeId} {v : Value} {L : List (Rw × Value)} : OwnFrom B (fun (_ : β) V => RowRow V C e et v L) := fun s X Y row h hg hr =>
  ⟨owns_own (β := Unit) (fun _ => L.length) (fun _ => L.flatMap rcells) () X Y row h.1 hg hr, fun p hp => owns_own (β := Unit) (fun _ => p.1.ws.length) (fun _ => p.1.ws.flatMap (tcells p.1.line)) () X Y row (h.2 p hp) hg hr⟩

theorem rowrow_put {w : World} {B l : Nat} {e et : TypeId} {v : Value} {L : List (Rw × Value)} {o : Obj} (h : RowRow w B e et v L) (hl : w.heap[l]? = some o) (ho : o.isCells = false) (o' : Obj) : RowRow (w.putObj l o') B e et v L :=
  ⟨owns_put h.1 hl ho o', fun p hp => owns_put (h.2 p hp) hl ho o'⟩

theorem rowrow_set {w : World} {B g : Nat} {e et t : TypeId} {v : Value} {L : List (Rw × Value)} {cs : Array Value} (h : RowRow w B e et v L) (hk : Bk w g t cs) (h1 : e ≠ t) (h2 : et ≠ t) (i : Nat) (x : Value) : RowRow (w.setCell ⟨g, i, none⟩ x) B e et v L :=
  ⟨owns_set h.1 (owns_bk h.1 hk h1), fun p hp => owns_set (h.2 p hp) (owns_bk (h.2 p hp) hk h2)⟩

/-- The rows so far. -/
def RowsDone (L : List (Rw × Value)) (ls : List (List UInt8)) (n : Nat) : Prop := L.map (·.1) = rowsFrom 1 ls ∧ L.length ≤ n ∧ ∀ p ∈ L, p.1.ws.length ≤ 100001

section

attribute [local go_sem] Oper.semAt_some

set_option maxRecDepth 100000 in
set_option maxHeartbeats 8000000 in
theorem word_Rows (l : List UInt8) (hl : l.length ≤ 100000) (w : World) :
    Calls Tryd.prog 12 #[.string ⟨l.toArray⟩] w fun e w' => ∃ u, e = .returned u ∧ RowsAt18 w' u (rowsOf l) ∧ Below w.heap.size w w' := by
  refine (callsIn_wide (n := 0)).1 ?_
  obtain ⟨i0, hi0, hz0, hz1, hz2⟩ := info_parts row_info
  have KP := Lib.hid (fun w => word_pieces l (.func 24) w)
  have HG := Lib.hid (fun gt gp => pieces_gives_nl gt gp l (by omega))
  have eg : ∀ args w, (callFunc 34 args).run Tryd.prog w = .ok (.enter 34 args) w := enters_of Tryd.func34 (by kernel_rfl) rfl
  obtain ⟨T, hT⟩ : ∃ T, T = tag 0 (spl nl l) := ⟨_, rfl⟩
  have HM : Hid (rowsOf l = rowsFrom 1 (T.map (·.2))) := Lib.hid (by rw [hT, tag_map]; rfl)
  have HP : Hid (∀ x ∈ T, x.2.length ≤ 100000) := Lib.hid (fun x hx => by
    have h1 : x.2 ∈ T.map (·.2) := List.mem_map_of_mem hx
    rw [hT, tag_map] at h1
    have := spl_size nl l _ h1
    omega)
  have HL : Hid (T.length ≤ 100001) := Lib.hid (by rw [hT, tag_len]; have := (spl_len nl l).2; omega)
  rw [← hT] at HG
  obtain ⟨R, hR⟩ : ∃ R, R = rowsOf l := ⟨_, rfl⟩
  have HR := Lib.hid hR
  rw [← hR]
  clear hT hR
  refine callsIn_of_wp_marks Tryd.func12 rfl trivial ?_ rfl
  simp only [Tryd.ntmps12, List.size_toArray, List.length_cons, List.length_nil, Nat.reduceAdd, Nat.reduceSub, Array.replicate_succ, Array.replicate_zero, List.push_toArray, List.append_toArray, List.nil_append, List.cons_append]
  gi_upto_region 3 with (fail)
  obtain ⟨W1, hW1⟩ : ∃ W, W = (w.alloc (.cells #[.slice none 0 0] 29)).alloc (.cells #[.int .i64 0] 3) := ⟨_, rfl⟩
  obtain ⟨k_s, k_n, B1⟩ := st2 hW1
  rw [← hW1]
  clear hW1
  have l_n : w.heap.size < w.heap.size + 1 := by omega
  generalize w.heap.size + 1 = g_n at *
  gi_wp2_with (refine ⟨trivial, rfl, ?_⟩; gi_at_call 23; (with_reducible refine (callsIn_wide.2 (KP.out _)).mono ?_); rintro e W2 ⟨gt, gp, rfl, kt, kp, ⟨ogt, ogp⟩, hb2⟩)
  have k_n := k_n.below hb2
  have k_s := k_s.below hb2
  have B2 : Below w.heap.size w W2 := B1.trans (hb2.mono B1.size)
  have i_t := kt.lt
  have i_p := kp.lt
  have i_n := k_n.lt
  have i_s := k_s.lt
  have hs1 := B1.size
  clear hb2 B1 KP
  refine range_on (gf := 34) (lb := #[.pointer (some ⟨gt, 0, none⟩), .pointer (some ⟨gp, 0, none⟩)]) (encs := fun x : Nat × List UInt8 => #[.int .i64 (x.1 : Int), .string ⟨x.2.toArray⟩]) (xs := T) rfl eg (HG.out gt gp) (fun _ => rfl)
    (fun pre b V => (∃ v L, Bk V w.heap.size 29 #[v] ∧ RowRow V w.heap.size 43 45 v L ∧ (Hid (RowsDone L (pre.map (·.2)) pre.length) ∧ b = v.ownBlock)) ∧ Bk V g_n 3 #[.int .i64 (pre.length : Int)] ∧ Bk V gt 9 #[.string ⟨l.toArray⟩] ∧ Bk V gp 61 #[.func (.func 24) #[] #[]] ∧ Below w.heap.size w V)
    (fun _ _ _ _ => False)
    (fun b => OwnFrom.and (own_ex (fun v => own_ex (fun L => OwnFrom.and (bk_own _) (OwnFrom.and rowrow_own (pure_own _))))) (OwnFrom.and (bk_own _) (OwnFrom.and (bk_own _) (OwnFrom.and (bk_own _) (ownFrom_below (Nat.le_refl _) (by omega))))))
    (fun c b => fun _ _ _ _ h _ _ => h)
    (fun s b V h => ⟨h.2.2.1, h.2.2.2.1⟩) ⟨⟨_, [], k_s, ⟨World.ownsRow_nil _ _ _ _, fun p hp => by cases hp⟩, Lib.hid ⟨rfl, by simp, fun p hp => by cases hp⟩, rfl⟩, k_n, kt, kp, B2⟩ ?round ?done ?stop
  case round =>
    rintro l2 pre ⟨k, x⟩ rest b V hl2 hx ⟨⟨v, L, k_s', hrow, HD, rfl⟩, k_n', k_t', k_p', hB⟩ hnl
    obtain ⟨ua, uc, rfl⟩ := owns_slice hrow.1
    have hpl : pre.length ≤ 100000 := by have := HL.out; rw [hx] at this; simp at this; omega
    have hkx : x.length ≤ 100000 := HP.out (k, x) (by rw [hx]; simp)
    have hLl := HD.out.2.1
    clear hx k_n k_s kt kp B2 eg
    gi_wp2
    refine ⟨KeepsBut.refl _ _ _, fun r' r'' hlr => ?_⟩
    obtain ⟨V2, hV2⟩ : ∃ V2, V2 = V.putObj l2 (.loop r'') := ⟨_, rfl⟩
    have k_s : Bk V2 w.heap.size 29 #[.slice ua L.length uc] := by rw [hV2]; exact bk_put k_s' hlr _
    have k_n : Bk V2 g_n 3 #[.int .i64 (pre.length : Int)] := by rw [hV2]; exact bk_put k_n' hlr _
    have k_t : Bk V2 gt 9 #[.string ⟨l.toArray⟩] := by rw [hV2]; exact bk_put k_t' hlr _
    have k_p : Bk V2 gp 61 #[.func (.func 24) #[] #[]] := by rw [hV2]; exact bk_put k_p' hlr _
    have hu : RowRow V2 w.heap.size 43 45 (.slice ua L.length uc) L := by rw [hV2]; exact rowrow_put hrow hlr rfl _
    have B1 : Below w.heap.size w V2 := by rw [hV2]; exact hB.trans (belowK_b (w := w) (Nat.le_refl _) _ _ _ _ (by omega) hlr rfl rfl)
    have hsz0 : V.heap.size ≤ V2.heap.size := by rw [hV2]; simp
    rw [← hV2]
    clear hV2 hlr hB k_s' k_n' k_t' k_p' hrow
    obtain ⟨V0, hV0⟩ : ∃ V0, V0 = V2 := ⟨_, rfl⟩
    refine stops_from hV0 ?_
    have HV0 := Lib.hid hV0
    clear hV0
    have c_n := k_n.cell (i := 0) rfl
    have f_n := k_n.frozen 0
    have KR : Hid (∀ w, Calls Tryd.prog 25 #[.string ⟨x.toArray⟩, .int .i64 ((pre.length : Int) + 1)] w fun e w' => ∃ u, e = .returned (.agg #[.int .i64 ((pre.length : Int) + 1), .int .i64 (endOf (toks x) : Int), u]) ∧ TokRow w' w.heap.size 45 u (pre.length + 1) (toks x) ∧ Below w.heap.size w w') := Lib.hid (fun w => by
      have := word_rowOf x (pre.length + 1) hkx (by omega) w
      rw [show ((pre.length + 1 : Nat) : Int) = (pre.length : Int) + 1 by omega] at this
      exact this)
    gi_upto_region 6 with (fail)
    obtain ⟨V3, hV3⟩ : ∃ V3, V3 = V2.setCell ⟨g_n, 0, none⟩ (.int .i64 ((pre.length : Int) + 1)) := ⟨_, rfl⟩
    have htg : gt ≠ g_n := fun e => by subst e; unfold Bk at k_t k_n; rw [k_t] at k_n; cases k_n
    have hpg : gp ≠ g_n := fun e => by subst e; unfold Bk at k_p k_n; rw [k_p] at k_n; cases k_n
    have k_s3 : Bk V3 w.heap.size 29 #[.slice ua L.length uc] := by rw [hV3]; exact k_s.other (a := ⟨g_n, 0, none⟩) (by show ¬ w.heap.size = g_n; omega) _
    have k_n3 : Bk V3 g_n 3 #[.int .i64 ((pre.length : Int) + 1)] := by rw [hV3]; exact (k_n.set 0 _).cast (by simp)
    have k_t3 : Bk V3 gt 9 #[.string ⟨l.toArray⟩] := by rw [hV3]; exact k_t.other (a := ⟨g_n, 0, none⟩) htg _
    have k_p3 : Bk V3 gp 61 #[.func (.func 24) #[] #[]] := by rw [hV3]; exact k_p.other (a := ⟨g_n, 0, none⟩) hpg _
    have hu3 : RowRow V3 w.heap.size 43 45 (.slice ua L.length uc) L := by rw [hV3]; exact rowrow_set hu k_n (by decide) (by decide) 0 _
    have B3 : Below w.heap.size w V3 := by rw [hV3]; exact B1.setCell (p := ⟨g_n, 0, none⟩) (by show w.heap.size ≤ g_n; omega) _
    have hkb3 : KeepsBut W2.heap.size (Value.slice ua L.length uc).ownBlock V0 V3 := by rw [HV0.out, hV3]; exact keepsBut_set i_n
    have hsz3 : V2.heap.size ≤ V3.heap.size := by rw [hV3]; simp [World.setCell]
    rw [← hV3]
    clear hV3 htg hpg k_s k_n k_t k_p hu B1 c_n f_n
    have c_n := k_n3.cell (i := 0) rfl
    gi_upto_region 7 with (refine ⟨trivial, rfl, ?_⟩; gi_at_call 25; refine (CallsIn.inRound l2 (callsIn_wide.2 (KR.out _))).mono ?_; rintro e V4 ⟨tv, rfl, htok, hb4⟩; obtain ⟨ta, tc, rfl⟩ := owns_slice htok)
    obtain ⟨ee, hee⟩ : ∃ ee, ee = endOf (toks x) := ⟨_, rfl⟩
    rw [← hee]
    obtain ⟨V5, hV5⟩ : ∃ V5, V5 = V4.alloc (.cells #[.int .i64 ((pre.length : Int) + 1), .int .i64 (ee : Int), .slice ta (toks x).length tc] 43) := ⟨_, rfl⟩
    have hb5 : Below V3.heap.size V3 V5 := by rw [hV5]; exact hb4.alloc hb4.size _
    have B5 : Below w.heap.size w V5 := B3.trans (hb5.mono B3.size)
    have hu5 := hu3.below hb5
    have k_s5 := k_s3.below hb5
    have k_n5 := k_n3.below hb5
    have k_t5 := k_t3.below hb5
    have k_p5 := k_p3.below hb5
    have ht5 : TokRow V5 w.heap.size 45 (.slice ta (toks x).length tc) (pre.length + 1) (toks x) := by rw [hV5]; exact owns_mono (World.ownsRow.alloc htok _) B3.size
    have k_r5 : Bk V5 V4.heap.size 43 #[.int .i64 ((pre.length : Int) + 1), .int .i64 (ee : Int), .slice ta (toks x).length tc] := by rw [hV5]; exact Bk.new _ _ _
    have hkb5 : KeepsBut W2.heap.size (Value.slice ua L.length uc).ownBlock V0 V5 := hkb3.trans (keepsBut_below hb5)
    have hsz5 : V.heap.size ≤ V5.heap.size := Nat.le_trans hsz0 (Nat.le_trans hsz3 hb5.size)
    rw [← hV5]
    have HEE := Lib.hid hee
    have hwl : (toks x).length ≤ 100001 := by have := toks_len x; omega
    have HX : Hid (rowsFrom 1 ((pre ++ [(k, x)]).map (·.2)) = rowsFrom 1 (pre.map (·.2)) ++ if toks x = [] then [] else [lineRow (pre.length + 1) x]) := Lib.hid (by
      rw [List.map_append]
      show rowsFrom 1 (pre.map (·.2) ++ [x]) = _
      rw [rowsFrom_snoc, List.length_map, Nat.add_comm 1])
    have hpn : ((pre ++ [(k, x)]).length : Int) = (pre.length : Int) + 1 := by simp
    have HPN := Lib.hid hpn
    clear hV5 hb5 hb4 hu3 k_s3 k_n3 k_t3 k_p3 htok B3 hkb3 hsz3 c_n hee hpn KR
    generalize V4.heap.size = g_r at *
    by_cases h0 : toks x = []
    · have hx0 : (toks x).length = 0 := by rw [h0]; rfl
      have HNX : Hid (RowsDone L ((pre ++ [(k, x)]).map (·.2)) (pre ++ [(k, x)]).length) := Lib.hid ⟨by rw [HX.out, if_pos h0, List.append_nil]; exact HD.out.1, by simp; omega, HD.out.2.2⟩
      rw [hx0] at k_r5
      rw [hx0]
      obtain ⟨c_r_0, c_r_1, c_r_2⟩ := rwc3 k_r5
      clear hx0 h0 hwl
      gi_wp2
      exact ⟨_, hkb5, FreshRow.same _ _, ⟨_, k_s5, L, hu5, HNX, rfl⟩, by rw [HPN.out]; exact k_n5, k_t5, k_p5, B5⟩
    · have hx0 : 0 < (toks x).length := List.length_pos_iff.2 h0
      have HNX : Hid (RowsDone (L ++ [(lineRow (pre.length + 1) x, Value.slice ta (toks x).length tc)]) ((pre ++ [(k, x)]).map (·.2)) (pre ++ [(k, x)]).length) := Lib.hid ⟨by rw [HX.out, if_neg h0, List.map_append, HD.out.1]; rfl, by simp; omega, fun p hp => by
        rcases List.mem_append.1 hp with hp | hp
        · exact HD.out.2.2 p hp
        · obtain rfl := List.mem_singleton.1 hp; exact hwl⟩
      have hcs : rcells (lineRow (pre.length + 1) x, Value.slice ta (toks x).length tc) = [.int .i64 ((pre.length : Int) + 1), .int .i64 (ee : Int), .slice ta (toks x).length tc] := by
        rw [HEE.out]; unfold rcells lineRow; simp only; rw [show ((pre.length + 1 : Nat) : Int) = (pre.length : Int) + 1 by omega]
      have HC := Lib.hid hcs
      obtain ⟨tn, htn⟩ : ∃ tn, tn = (toks x).length := ⟨_, rfl⟩
      rw [← htn] at hx0 k_r5 ht5 HNX HC ⊢
      clear h0 hwl hcs htn
      obtain ⟨c_r_0, c_r_1, c_r_2⟩ := rwc3 k_r5
      have c_s := k_s5.cell (i := 0) rfl
      have hB5 := B5.size
      gi_wp2_with (gi_at_builtin; refine wpListIn_append_own_at _ rfl _ _ 29 rfl w.heap.size 43 i0 (.agg #[.int .i64 0, .int .i64 0, .slice none 0 0]) 3 40 Tryd.underlying29 hi0 hz0 hz1 hz2 rfl (by decide) _ L.length (L.flatMap rcells) rfl (World.ownsRow.alloc hu5.1 _) ⟨V5.heap.size, 0, none⟩ 1 1 [.int .i64 ((pre.length : Int) + 1), .int .i64 (ee : Int), .slice ta tn tc] rfl rfl ?g1 ?g2 ?g3 ?g4 ?g5 ?_)
      case g2 => exact ⟨rfl, rfl, rfl⟩
      case g3 => unfold maxLen; omega
      case g4 => omega
      case g5 => omega
      intro v' w1 hown hgrow hnil hat
      obtain ⟨va, vc, rfl⟩ := owns_slice hown
      have hbp : Below V5.heap.size V5 (V5.alloc (.cells #[.int .i64 ((pre.length : Int) + 1), .int .i64 (ee : Int), .slice ta tn tc] 43)) := (Below.refl _ _).alloc (Nat.le_refl _) _
      have hb1 : Below w.heap.size w w1 := (B5.trans (hbp.mono B5.size)).grown hgrow (by have := (B5.trans (hbp.mono B5.size)).size; exact this) (fun j ej => (World.ownsRow.lt hu5.1 _ ej).1)
      have hup := hu5.below hbp
      have r1 : RowRow w1 w.heap.size 43 45 (.slice va (L.length + 1) vc) (L ++ [(lineRow (pre.length + 1) x, .slice ta tn tc)]) := hup.put (by rw [HC.out]; exact hown) hgrow (owns_below ht5 hbp) (by decide)
      have gk : ∀ {g : Nat} {t : TypeId} {cs : Array Value}, Bk V5 g t cs → 43 ≠ t → Bk w1 g t cs := fun {g t cs} k ht => (k.below hbp).grown hgrow (fun e => owns_bk hup.1 (k.below hbp) ht e.symm)
      have k_s6 := gk k_s5 (by decide)
      have k_n6 := gk k_n5 (by decide)
      have k_t6 := gk k_t5 (by decide)
      have k_p6 := gk k_p5 (by decide)
      have hkb6 : KeepsBut W2.heap.size (Value.slice ua L.length uc).ownBlock V0 w1 := (hkb5.trans (keepsBut_below hbp)).trans (keepsBut_grown hgrow)
      have hfr : FreshRow V.heap.size (Value.slice ua L.length uc).ownBlock (Value.slice va (L.length + 1) vc).ownBlock := by
        rcases hat with h | h
        · exact .inl h
        · exact .inr ⟨_, h, by first | omega | (simp; omega)⟩
      clear hown hgrow hnil hat hbp hup gk hu5 k_s5 k_n5 k_t5 k_p5 ht5 k_r5 hkb5 c_r_0 c_r_1 c_r_2 c_s B5
      have c_s := k_s6.cell (i := 0) rfl
      have f_s := k_s6.frozen 0
      have hts : gt ≠ w.heap.size := fun e => by rw [e] at k_t6; unfold Bk at k_t6 k_s6; rw [k_t6] at k_s6; cases k_s6
      have hps : gp ≠ w.heap.size := fun e => by rw [e] at k_p6; unfold Bk at k_p6 k_s6; rw [k_p6] at k_s6; cases k_s6
      have k_s7 : Bk _ w.heap.size 29 #[.slice va (L.length + 1) vc] := (k_s6.set 0 (.slice va (L.length + 1) vc)).cast (by simp)
      have k_n7 := k_n6.other (a := ⟨w.heap.size, 0, none⟩) (by show ¬ g_n = w.heap.size; omega) (.slice va (L.length + 1) vc)
      have k_t7 := k_t6.other (a := ⟨w.heap.size, 0, none⟩) hts (.slice va (L.length + 1) vc)
      have k_p7 := k_p6.other (a := ⟨w.heap.size, 0, none⟩) hps (.slice va (L.length + 1) vc)
      have r7 := rowrow_set r1 k_s6 (by decide) (by decide) 0 (.slice va (L.length + 1) vc)
      have B7 := hb1.setCell (p := ⟨w.heap.size, 0, none⟩) (Nat.le_refl _) (.slice va (L.length + 1) vc)
      have hkb7 : KeepsBut W2.heap.size (Value.slice ua L.length uc).ownBlock V0 (w1.setCell ⟨w.heap.size, 0, none⟩ (.slice va (L.length + 1) vc)) := hkb6.trans (keepsBut_set i_s)
      have HALL := Lib.hid (And.intro hkb7 (And.intro k_s7 (And.intro r7 (And.intro k_n7 (And.intro k_t7 (And.intro k_p7 B7))))))
      clear hkb7 k_s7 r7 k_n7 k_t7 k_p7 B7 hts hps k_s6 k_n6 k_t6 k_p6 r1 hb1 hkb6
      gi_wp2
      exact ⟨_, HALL.out.1, hfr, ⟨_, _, HALL.out.2.1, HALL.out.2.2.1, HNX, rfl⟩, by rw [HPN.out]; exact HALL.out.2.2.2.1, HALL.out.2.2.2.2.1, HALL.out.2.2.2.2.2.1, HALL.out.2.2.2.2.2.2⟩
  case done =>
    rintro D b V hD ⟨⟨v, L, k_s', hrow, HD, rfl⟩, k_n', k_t', k_p', hB⟩ hK
    obtain ⟨ua, uc, rfl⟩ := owns_slice hrow.1
    clear k_n k_s kt kp B2 eg
    have q0 := k_s'.cell (i := 0) rfl
    have hf := (rowrow_put hrow hK rfl (.deferred none)).at (by have := HD.out.2.1; have := HL.out; unfold maxLen; omega) (fun p hp => by have := HD.out.2.2 p hp; unfold maxLen; omega)
    rw [HD.out.1, ← HM.out, ← HR.out] at hf
    gi_wp2
    refine ⟨by simp, .inl ⟨_, _, rfl, run_takeDeferred hK, ?_⟩⟩
    exact ⟨.slice ua L.length uc, by simp [results, Tryd.results12, go_sem], _, rfl, hf, hB.trans (belowK_b (w := w) (Nat.le_refl _) V D _ _ (by omega) hK rfl rfl)⟩
  case stop => exact fun D c pre b W _ h => h.elim

end

end Go.Proofs.YtlhamgcmkodjeaaDoor
