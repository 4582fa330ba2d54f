/- Contracts of package word: a line's row. -/
import Derived.Test.YtlhamgcmkodjeaaDoorWds18
import Derived.Test.YtlhamgcmkodjeaaDoorConv18
import Derived.Test.YtlhamgcmkodjeaaDoorRow
import Derived.Test.YtlhamgcmkodjeaaDoorFloat
import Derived.RangeFuncKeeps
namespace Go.Proofs.YtlhamgcmkodjeaaDoor
open Go.RowKit Go.Shelf Go.Proofs.Sky
set_option linter.unusedVariables false
set_option linter.unusedSimpArgs false

/-- A row of the caller's own, between two rounds. -/
theorem owns_own {β : Type} {B C : Nat} {e : TypeId} {sz : Nat} {v : Value} (n : β → Nat) (xs : β → List Value) : OwnFrom B (fun s V => V.ownsRow C e sz v (n s) (xs s)) := fun s X Y row h hg hr =>
  owns_grown h hg (fun j hj er => by
    obtain ⟨_, o, ho, hc⟩ := hr j er
    obtain ⟨_, ⟨e1, _⟩ | ⟨g, cap, cur, e1, _, hg', _⟩⟩ := h
    · rw [e1] at hj; cases hj
    · rw [e1] at hj
      cases hj
      have ho' : X.heap[g]? = some o := ho
      rw [hg'] at ho'
      cases ho'
      cases hc)

theorem tok_own {β : Type} {B C : Nat} {e : TypeId} {v : Value} {m : Nat} (f : β → List (Nat × List UInt8)) : OwnFrom B (fun s V => TokRow V C e v m (f s)) := owns_own (fun s => (f s).length) (fun s => (f s).flatMap (tcells m))

theorem owns_put {w : World} {B l : Nat} {e : TypeId} {size n : Nat} {v : Value} {xs : List Value} {o : Obj} (h : w.ownsRow B e size v n xs) (hl : w.heap[l]? = some o) (ho : o.isCells = false) (o' : Obj) : (w.putObj l o').ownsRow B e size v n xs :=
  owns_grown h (grownBy_putObj' w l o') (fun j hj er => by
    cases er
    obtain ⟨_, ⟨e1, _⟩ | ⟨g, cap, cur, e1, _, hg', _⟩⟩ := h
    · rw [e1] at hj; cases hj
    · rw [e1] at hj
      cases hj
      have ho2 : w.heap[g]? = some o := hl
      rw [hg'] at ho2
      cases ho2
      cases ho)

section

attribute [local go_sem] Oper.semAt_some

set_option maxRecDepth 100000 in
set_option maxHeartbeats 8000000 in
theorem word_rowOf (l : List UInt8) (m : Nat) (hl : l.length ≤ 100000) (hm : m ≤ 1000000) (w : World) :
    Calls Tryd.prog 25 #[.string ⟨l.toArray⟩, .int .i64 (m : Int)] w fun e w' => ∃ u, e = .returned (.agg #[.int .i64 (m : Int), .int .i64 (endOf (toks l) : Int), u]) ∧ TokRow w' w.heap.size 45 u m (toks l) ∧ Below w.heap.size w w' := by
  refine (callsIn_wide (n := 0)).1 ?_
  obtain ⟨i0, hi0, hz0, hz1, hz2⟩ := info_parts tok_info
  have KW := Lib.hid (fun w => word_words l w)
  have HG := Lib.hid (fun gl => words_gives gl l (by omega))
  have eg : ∀ args w, (callFunc 50 args).run Tryd.prog w = .ok (.enter 50 args) w := enters_of Tryd.func50 (by kernel_rfl) rfl
  obtain ⟨T, hT⟩ : ∃ T, T = toks l := ⟨_, rfl⟩
  have HP : Hid (∀ x ∈ T, x.1 + x.2.length ≤ 100000) := Lib.hid (fun x hx => by rw [hT] at hx; have := toks_place l x hx; omega)
  have HL : Hid (T.length ≤ 100001) := Lib.hid (by rw [hT]; have := toks_len l; omega)
  rw [← hT] at HG ⊢
  clear hT
  refine callsIn_of_wp_marks Tryd.func25 rfl trivial ?_ rfl
  simp only [Tryd.ntmps25, List.size_toArray, List.length_cons, List.length_nil, Nat.reduceAdd, Nat.reduceSub, Array.replicate_succ, Array.replicate_zero, List.push_toArray, List.append_toArray, List.nil_append, List.cons_append]
  gi_upto_region 2 with (fail)
  obtain ⟨W1, hW1⟩ : ∃ W, W = ((w.alloc (.cells #[.int .i64 (m : Int)] 3)).alloc (.cells #[.int .i64 0, .int .i64 0, .slice none 0 0] 43)).alloc (.cells #[.int .i64 (m : Int), .int .i64 0, .slice none 0 0] 43) := ⟨_, rfl⟩
  obtain ⟨k_n, k_o, k_r, B1⟩ := st3 hW1
  rw [← hW1]
  clear hW1
  have l_o : w.heap.size < w.heap.size + 1 := by omega
  have l_r : w.heap.size + 1 < w.heap.size + 1 + 1 := by omega
  generalize w.heap.size + 1 + 1 = g_r at *
  generalize w.heap.size + 1 = g_o at *
  gi_wp2_with (refine ⟨trivial, rfl, ?_⟩; gi_at_call 35; (with_reducible refine (callsIn_wide.2 (KW.out _)).mono ?_); rintro e W2 ⟨gl, rfl, kl, hb2⟩)
  have k_n := k_n.below hb2
  have k_o := k_o.below hb2
  have k_r := k_r.below hb2
  have B2 : Below w.heap.size w W2 := B1.trans (hb2.mono B1.size)
  have i_l := kl.lt
  have i_n := k_n.lt
  have i_o := k_o.lt
  have i_r := k_r.lt
  clear hb2 B1 KW
  refine range_on (gf := 50) (lb := #[.pointer (some ⟨gl, 0, none⟩)]) (encs := fun x : Nat × List UInt8 => #[.int .i64 (x.1 : Int), .string ⟨x.2.toArray⟩]) (xs := T) rfl eg (HG.out gl) (fun _ => rfl)
    (fun pre b V => (∃ v, Bk V g_r 43 #[.int .i64 (m : Int), .int .i64 (endOf pre : Int), v] ∧ TokRow V w.heap.size 45 v m pre ∧ b = v.ownBlock) ∧ Bk V w.heap.size 3 #[.int .i64 (m : Int)] ∧ Bk V g_o 43 #[.int .i64 0, .int .i64 0, .slice none 0 0] ∧ Bk V gl 9 #[.string ⟨l.toArray⟩] ∧ Below w.heap.size w V)
    (fun _ _ _ _ => False)
    (fun b => OwnFrom.and (own_ex (fun v => OwnFrom.and (bk_own _) (OwnFrom.and (tok_own _) (pure_own _)))) (OwnFrom.and (bk_own _) (OwnFrom.and (bk_own _) (OwnFrom.and (bk_own _) (ownFrom_below (Nat.le_refl _) (by omega))))))
    (fun c b => fun _ _ _ _ h _ _ => h)
    (fun s b V h => h.2.2.2.1) ⟨⟨_, k_r, World.ownsRow_nil _ _ _ _, rfl⟩, k_n, k_o, kl, B2⟩ ?round ?done ?stop
  case round =>
    rintro l2 pre ⟨k, x⟩ rest b V hl2 hx ⟨⟨v, k_r', hrow, rfl⟩, k_n', k_o', k_l', hB⟩ hnl
    obtain ⟨ua, uc, rfl⟩ := owns_slice hrow
    have hpl : pre.length ≤ 100000 := by have := HL.out; rw [hx] at this; simp at this; omega
    have hkx : k + x.length ≤ 100000 := HP.out (k, x) (by rw [hx]; simp)
    clear hx k_n k_o k_r kl B2 eg
    gi_wp2
    refine ⟨KeepsBut.refl _ _ _, fun r' r'' hlr => ?_⟩
    obtain ⟨V2, hV2⟩ : ∃ V2, V2 = V.putObj l2 (.loop r'') := ⟨_, rfl⟩
    have k_r : Bk V2 g_r 43 #[.int .i64 (m : Int), .int .i64 (endOf pre : Int), .slice ua pre.length uc] := by rw [hV2]; exact bk_put k_r' hlr _
    have k_n : Bk V2 w.heap.size 3 #[.int .i64 (m : Int)] := by rw [hV2]; exact bk_put k_n' hlr _
    have k_o : Bk V2 g_o 43 #[.int .i64 0, .int .i64 0, .slice none 0 0] := by rw [hV2]; exact bk_put k_o' hlr _
    have k_l : Bk V2 gl 9 #[.string ⟨l.toArray⟩] := by rw [hV2]; exact bk_put k_l' hlr _
    have hu : TokRow V2 w.heap.size 45 (.slice ua pre.length uc) m pre := by rw [hV2]; exact owns_put hrow hlr rfl _
    have B1 : Below w.heap.size w V2 := by rw [hV2]; exact hB.trans (belowK_b (w := w) (Nat.le_refl _) _ _ _ _ (by omega) hlr rfl rfl)
    have hsz0 : V.heap.size ≤ V2.heap.size := by rw [hV2]; simp
    rw [← hV2]
    clear hV2 hlr hB k_r' k_n' k_o' k_l' hrow
    obtain ⟨V0, hV0⟩ : ∃ V0, V0 = V2 := ⟨_, rfl⟩
    refine stops_from hV0 ?_
    have HV0 := Lib.hid hV0
    clear hV0
    have KC := Lib.hid (fun w => strings_Clone18 x w (by omega))
    obtain ⟨c_r_0, c_r_1, c_r_2⟩ := bwc3 k_r
    have c_n_0 := bwc1 k_n
    obtain ⟨p1, hp1⟩ : ∃ p : BW V2, p.w = V2 := ⟨BW.start V2, rfl⟩
    rw [← hp1]
    clear hp1
    gi_upto_region 5 with (fail)
    refine region_in (by kernel_rfl) (by kernel_rfl) (fun _ _ h => h) ?_
    refine any_region_floatV (t := 45) (zs := #[.string ⟨x.toArray⟩, .int .i64 (m : Int), .int .i64 ((k : Int) + 1)]) 9 8 22 32 [21] (fun g => .slice (some ⟨g, 0, none⟩) 1 1) (by kernel_rfl) (by kernel_rfl) (by kernel_rfl) rfl rfl ?_
    apply Exists.intro
    refine ⟨?_, ?_, ?_⟩
    · intro wb' hwb'
      obtain ⟨d_r_0, d_r_1, d_r_2⟩ := bwc3 (k_r.below hwb')
      have d_n_0 := bwc1 (k_n.below hwb')
      simp only [maskAt, List.take_succ_cons, List.take_zero]
      repeat (go_big_quiet_step (first
        | (go_at_call 36; (with_reducible exact bw_call KC.out _))))
      refine wpQuiet_nil ?_
      exact rfl
    · intro ax wx hp
      have e21 := hp 21 (by decide)
      clear hp
      simp only [Act.put, List.setIfInBounds_toArray, List.set_cons_zero, List.set_cons_succ, List.getElem?_toArray, List.getElem?_cons_succ, List.getElem?_cons_zero] at e21
      exact ⟨by simp [Region.wanted, yielded, e21], by simp [execOp, go_sem, Act.eval, e21]⟩
    intro W3 g_nb hW hg k_nb
    have B3 : Below w.heap.size w W3 := B1.trans (hW.mono B1.size)
    have hk1 : Below V2.heap.size V2 W3 := hW
    have k_n := k_n.below hW
    have k_o := k_o.below hW
    have k_l := k_l.below hW
    have k_r := k_r.below hW
    have hu : TokRow W3 w.heap.size 45 (.slice ua pre.length uc) m pre := owns_below hu hW
    clear hW hg B1 c_r_0 c_r_1 c_r_2 c_n_0 KC
    simp only [List.drop_succ_cons, List.drop_zero, Act.put, List.setIfInBounds_toArray, List.set_cons_zero, List.set_cons_succ]
    have hsz := B3.size
    go_wp2_with (at_builtin; refine wpList_append_at rfl _ _ 41 rfl w.heap.size 45 i0 _ 3 32 Tryd.underlying41 hi0 hz0 hz1 hz2 rfl (by decide) _ pre.length (pre.flatMap (tcells m)) rfl hu ⟨g_nb, 0, none⟩ 1 1 (tcells m (k, x)) rfl rfl ?g1 ?g2 ?g3 ?g4 ?g5 ?_)
    case g1 => exact bk_at18 k_nb
    case g2 => exact tcells_one _ _
    case g3 => unfold maxLen; omega
    case g4 => omega
    case g5 => omega
    intro v' w1 hown hgrow hat
    obtain ⟨va, vc, rfl⟩ := owns_slice hown
    have r1 : TokRow w1 w.heap.size 45 (.slice va (pre.length + 1) vc) m (pre ++ [(k, x)]) := by unfold TokRow; rw [List.length_append, tok_snoc]; exact hown
    have hb1 : Below w.heap.size w w1 := B3.grown hgrow hsz (fun j ej => (World.ownsRow.lt hu j ej).1)
    have kr1 := k_r.grown hgrow (fun e => owns_bk hu k_r (by decide) e.symm)
    have ko1 := k_o.grown hgrow (fun e => owns_bk hu k_o (by decide) e.symm)
    have kn1 := k_n.grown hgrow (fun e => owns_bk hu k_n (by decide) e.symm)
    have kl1 := k_l.grown hgrow (fun e => owns_bk hu k_l (by decide) e.symm)
    have q2 := kr1.cell (i := 2) rfl
    have f2 := kr1.frozen 2
    have hne : (Value.slice va (pre.length + 1) vc).ownBlock ≠ some g_r := owns_bk r1 kr1 (by decide)
    have hkb : KeepsBut W2.heap.size (Value.slice ua pre.length uc).ownBlock V0 w1 := by rw [HV0.out]; exact (keepsBut_below hk1).trans (keepsBut_grown hgrow)
    have hfr : FreshRow V.heap.size (Value.slice ua pre.length uc).ownBlock (Value.slice va (pre.length + 1) vc).ownBlock := by
      rcases hat with h | h
      · exact .inl h
      · exact .inr ⟨_, h, Nat.le_trans hsz0 hk1.size⟩
    have HEND : Hid ((endOf (pre ++ [(k, x)]) : Int) = (k : Int) + (x.length : Int) + 1) := Lib.hid (by rw [endOf_snoc]; simp only; omega)
    clear hown hgrow hat hu k_o k_r k_n k_l k_nb hk1
    go_wp2
    obtain ⟨W4, hW4⟩ : ∃ W, W = w1.setCell ⟨g_r, 2, none⟩ (.slice va (pre.length + 1) vc) := ⟨_, rfl⟩
    have B4 : Below w.heap.size w W4 := by rw [hW4]; exact (hb1.setCell (p := ⟨g_r, 2, none⟩) (by show w.heap.size ≤ g_r; omega) _)
    have kr2 : Bk W4 g_r 43 #[.int .i64 (m : Int), .int .i64 (endOf pre : Int), .slice va (pre.length + 1) vc] := by rw [hW4]; exact (kr1.set 2 _).cast (by simp)
    have ko2 : Bk W4 g_o 43 #[.int .i64 0, .int .i64 0, .slice none 0 0] := by rw [hW4]; exact (ko1.other (a := ⟨g_r, 2, none⟩) (by show ¬ g_o = g_r; omega) _)
    have kn2 : Bk W4 w.heap.size 3 #[.int .i64 (m : Int)] := by rw [hW4]; exact (kn1.other (a := ⟨g_r, 2, none⟩) (by show ¬ w.heap.size = g_r; omega) _)
    have hlr : gl ≠ g_r := fun e => by subst e; unfold Bk at kl1 kr1; rw [kl1] at kr1; cases kr1
    have kl2 : Bk W4 gl 9 #[.string ⟨l.toArray⟩] := by rw [hW4]; exact (kl1.other (a := ⟨g_r, 2, none⟩) hlr _)
    have r2 : TokRow W4 w.heap.size 45 (.slice va (pre.length + 1) vc) m (pre ++ [(k, x)]) := by rw [hW4]; exact owns_set r1 hne
    have hkb2 : KeepsBut W2.heap.size (Value.slice ua pre.length uc).ownBlock V0 W4 := by rw [hW4]; exact hkb.trans (keepsBut_set i_r)
    rw [← hW4]
    clear hW4 hb1 kr1 ko1 kn1 kl1 r1 q2 f2 hkb
    have q1 := kr2.cell (i := 1) rfl
    have f1 := kr2.frozen 1
    have kr3 : Bk _ g_r 43 #[.int .i64 (m : Int), .int .i64 (endOf (pre ++ [(k, x)]) : Int), .slice va (pre.length + 1) vc] := (kr2.set 1 (.int .i64 ((k : Int) + (x.length : Int) + 1))).cast (by rw [HEND.out]; simp)
    have ko3 := ko2.other (a := ⟨g_r, 1, none⟩) (by show ¬ g_o = g_r; omega) (.int .i64 ((k : Int) + (x.length : Int) + 1))
    have kn3 := kn2.other (a := ⟨g_r, 1, none⟩) (by show ¬ w.heap.size = g_r; omega) (.int .i64 ((k : Int) + (x.length : Int) + 1))
    have kl3 := kl2.other (a := ⟨g_r, 1, none⟩) hlr (.int .i64 ((k : Int) + (x.length : Int) + 1))
    have r3 : TokRow _ w.heap.size 45 (.slice va (pre.length + 1) vc) m (pre ++ [(k, x)]) := owns_set (a := ⟨g_r, 1, none⟩) (x := .int .i64 ((k : Int) + (x.length : Int) + 1)) r2 hne
    have B5 : Below w.heap.size w _ := (B4.setCell (p := ⟨g_r, 1, none⟩) (by show w.heap.size ≤ g_r; omega) (.int .i64 ((k : Int) + (x.length : Int) + 1)))
    have hkb3 : KeepsBut W2.heap.size (Value.slice ua pre.length uc).ownBlock V0 (W4.setCell ⟨g_r, 1, none⟩ (.int .i64 ((k : Int) + (x.length : Int) + 1))) := hkb2.trans (keepsBut_set i_r)
    have HALL := Lib.hid (And.intro hkb3 (And.intro kr3 (And.intro r3 (And.intro kn3 (And.intro ko3 (And.intro kl3 B5))))))
    clear kr3 ko3 kn3 kl3 r3 B5 hkb3 hkb2 kr2 ko2 kn2 kl2 r2 B4 hne hlr
    have hl18 : ∀ ty w, (Builtin.len_ #[9] ty #[.string ⟨x.toArray⟩]).run Tryd.prog w = .ok (.int .i64 (x.length : Int)) w := fun ty w => len18 (P := Tryd.prog) Tryd.underlying9 rfl ty w
    generalize endOf pre = ep at *
    generalize x.length = xl at *
    gi_wp2
    exact ⟨_, HALL.out.1, hfr, ⟨_, HALL.out.2.1, HALL.out.2.2.1, rfl⟩, HALL.out.2.2.2.1, HALL.out.2.2.2.2.1, HALL.out.2.2.2.2.2.1, HALL.out.2.2.2.2.2.2⟩
  case done =>
    rintro D b V hD ⟨⟨v, k_r', hrow, rfl⟩, k_n', k_o', k_l', hB⟩ hK
    obtain ⟨ua, uc, rfl⟩ := owns_slice hrow
    clear k_n k_o k_r kl B2 eg
    have q0 := k_r'.cell (i := 0) rfl
    have q1 := k_r'.cell (i := 1) rfl
    have q2 := k_r'.cell (i := 2) rfl
    have f0 := k_o'.frozen 0
    have f1 := k_o'.frozen 1
    have f2 := k_o'.frozen 2
    have z0 := k_o'.cell (i := 0) rfl
    have z1 := k_o'.cell (i := 1) rfl
    have z2 := k_o'.cell (i := 2) rfl
    gi_wp2
    have hDo : D ≠ g_o := by omega
    have kr := bkp3 k_o' (.int .i64 (m : Int)) (.int .i64 (endOf T : Int)) (.slice ua T.length uc)
    have hne : (Value.slice ua T.length uc).ownBlock ≠ some g_o := owns_bk hrow k_o' (by decide)
    have hu2 : TokRow _ w.heap.size 45 (.slice ua T.length uc) m T := owns_set (a := ⟨g_o, 2, none⟩) (x := .slice ua T.length uc) (owns_set (a := ⟨g_o, 1, none⟩) (x := .int .i64 (endOf T : Int)) (owns_set (a := ⟨g_o, 0, none⟩) (x := .int .i64 (m : Int)) hrow hne) hne) hne
    have B9 : Below w.heap.size w _ := blp3 (v0 := .int .i64 (m : Int)) (v1 := .int .i64 (endOf T : Int)) (v2 := .slice ua T.length uc) hB (by omega : w.heap.size ≤ g_o)
    have hK2 : (((V.setCell ⟨g_o, 0, none⟩ (.int .i64 (m : Int))).setCell ⟨g_o, 1, none⟩ (.int .i64 (endOf T : Int))).setCell ⟨g_o, 2, none⟩ (.slice ua T.length uc)).heap[D]? = some (.deferred (some [])) := by
      rw [Below.heap_setCell _ _ _ _ hDo, Below.heap_setCell _ _ _ _ hDo, Below.heap_setCell _ _ _ _ hDo]; exact hK
    generalize ((V.setCell ⟨g_o, 0, none⟩ (.int .i64 (m : Int))).setCell ⟨g_o, 1, none⟩ (.int .i64 (endOf T : Int))).setCell ⟨g_o, 2, none⟩ (.slice ua T.length uc) = X at *
    refine ⟨by simp, .inl ⟨_, _, rfl, run_takeDeferred hK2, ?_⟩⟩
    obtain ⟨rc0, rc1, rc2⟩ := rwc3 (bk_turn kr hK2 rfl (.deferred none))
    exact ⟨.agg #[.int .i64 (m : Int), .int .i64 (endOf T : Int), .slice ua T.length uc], by simp [results, Tryd.results25, go_sem, rc0, rc1, rc2], _, rfl, owns_put hu2 hK2 rfl _, B9.trans (belowK_b (w := w) (Nat.le_refl _) X D _ _ (by omega) hK2 rfl rfl)⟩
  case stop => exact fun D c pre b W _ h => h.elim

end

end Go.Proofs.YtlhamgcmkodjeaaDoor
