/- Contracts of package word: the words of a line that count. -/
import Derived.Test.YtlhamgcmkodjeaaDoorPiec18
namespace Go.Proofs.YtlhamgcmkodjeaaDoor
open Go.RowKit Go.Shelf Go.Proofs.Sky
set_option linter.unusedVariables false
set_option linter.unusedSimpArgs false

/-- No piece is a remark. -/
def clean (l : List (Nat × List UInt8)) : Prop := ∀ x ∈ l, x.2.head? ≠ some 35

theorem clean_snoc {l : List (Nat × List UInt8)} {x : Nat × List UInt8} (h : clean l) (hx : x.2.head? ≠ some 35) : clean (l ++ [x]) := fun y hy => by
  rcases List.mem_append.1 hy with hy | hy
  · exact h y hy
  · obtain rfl := List.mem_singleton.1 hy; exact hx

theorem sel_app {l : List (Nat × List UInt8)} (h : clean l) (r : List (Nat × List UInt8)) : sel (l ++ r) = sel l ++ sel r := by
  induction l with
  | nil => rfl
  | cons x l ih =>
    obtain ⟨k, x⟩ := x
    have hx := h (k, x) List.mem_cons_self
    have hl := ih (fun y hy => h y (List.mem_cons_of_mem _ hy))
    by_cases h0 : x = []
    · subst h0
      show sel ((k, []) :: (l ++ r)) = _
      rw [sel_nil, sel_nil, hl]
    · show sel ((k, x) :: (l ++ r)) = _
      rw [sel_word _ _ _ h0 hx, sel_word _ _ _ h0 hx, hl]
      rfl

theorem word_words (l : List UInt8) (w : World) :
    Calls Tryd.prog 35 #[.string ⟨l.toArray⟩] w fun e w' => ∃ gl, e = .returned (.func (.func 50) #[] #[.pointer (some ⟨gl, 0, none⟩)]) ∧ Bk w' gl 9 #[.string ⟨l.toArray⟩] ∧ Below w.heap.size w w' := by
  have hmf : ∀ (fn : Fn) (first cap : Array Value) (w : World), (Instr.makeFunc fn first cap).run Tryd.prog w = .ok (.func fn first cap) w := fun _ _ _ _ => rfl
  go_enter Tryd.func35, Tryd.ntmps35
  go_wp2
  go_ret
  exact ⟨_, rfl, Bk.new _ _ _, (Below.refl _ _).alloc (Nat.le_refl _) _⟩

section

attribute [local go_sem] Oper.semAt_some

set_option maxRecDepth 100000 in
set_option maxHeartbeats 8000000 in
theorem words_gives (gl : Nat) (l : List UInt8) (hl : l.length ≤ 1000000) :
    GivesOn Tryd.prog 50 #[.pointer (some ⟨gl, 0, none⟩)] penc (toks l) (fun X => Bk X gl 9 #[.string ⟨l.toArray⟩]) := fun y J Jx W hJ hJx hB0 hY h0 => by
  have hB : ∀ t b X, J t b X → Bk X gl 9 #[.string ⟨l.toArray⟩] := hB0
  clear hB0
  have hbW := hB _ _ _ h0
  have c_l : W.cell? ⟨gl, 0, none⟩ = some (.string ⟨l.toArray⟩) := hbW.cell rfl
  have igl := hbW.lt
  have eg : ∀ args w, (callFunc 34 args).run Tryd.prog w = .ok (.enter 34 args) w := enters_of Tryd.func34 (by kernel_rfl) rfl
  have KW := Lib.hid (fun w => word_pieces l (.func 51) w)
  have HG := Lib.hid (fun gt gp => pieces_gives_bl gt gp l hl)
  obtain ⟨xs, hxs⟩ : ∃ xs, xs = tag 0 (spl bl l) := ⟨_, rfl⟩
  have HT : Hid (toks l = sel xs) := Lib.hid (by rw [hxs]; rfl)
  rw [← hxs] at HG
  clear hxs
  refine callsIn_of_wp_marks Tryd.func50 rfl trivial ?_ rfl
  simp only [Tryd.ntmps50, List.size_toArray, List.length_cons, List.length_nil, Nat.reduceAdd, Nat.reduceSub, Array.replicate_succ, Array.replicate_zero, List.push_toArray, List.append_toArray, List.nil_append, List.cons_append]
  have HY := Lib.hid hY
  have HB := Lib.hid hB
  have HJ := Lib.hid hJ
  have HJx := Lib.hid hJx
  clear hY hB hJ hJx hbW
  gi_upto_region 1 with (fail)
  obtain ⟨W1, hW1⟩ : ∃ W1, W1 = W.alloc (.cells #[.func (.yield y) #[] #[]] 69) := ⟨_, rfl⟩
  have k_y : Bk W1 W.heap.size 69 #[.func (.yield y) #[] #[]] := by rw [hW1]; exact Bk.new _ _ _
  have hb1 : Below W.heap.size W W1 := by rw [hW1]; exact (Below.refl _ _).alloc (Nat.le_refl _) _
  have c_l1 : W1.cell? ⟨gl, 0, none⟩ = some (.string ⟨l.toArray⟩) := (hb1.cell (p := ⟨gl, 0, none⟩) igl).trans c_l
  have h1 := own_below (HJ.out none) h0 hb1
  rw [← hW1]
  clear hW1 c_l h0
  gi_wp2_with (refine ⟨trivial, rfl, ?_⟩; gi_at_call 23; (with_reducible refine (callsIn_wide.2 (KW.out _)).mono ?_); rintro e W2 ⟨gt, gp, rfl, kt, kp, ⟨ogt1, ogp1⟩, hb2⟩)
  have h2 := own_below (HJ.out none) h1 hb2
  have k_y2 := k_y.below hb2
  have hle : W.heap.size ≤ W2.heap.size := Nat.le_trans hb1.size hb2.size
  have ogt : W.heap.size ≤ gt := Nat.le_trans hb1.size ogt1
  have ogp : W.heap.size ≤ gp := Nat.le_trans hb1.size ogp1
  have igt := kt.lt
  have igp := kp.lt
  have igy := k_y2.lt
  clear c_l1 h1 k_y hb1 hb2
  refine range_on (gf := 34) (lb := #[.pointer (some ⟨gt, 0, none⟩), .pointer (some ⟨gp, 0, none⟩)]) (encs := fun x : Nat × List UInt8 => #[.int .i64 (x.1 : Int), .string ⟨x.2.toArray⟩]) (xs := xs) rfl eg (HG.out gt gp) (fun _ => rfl)
    (fun pre b V => (J (sel pre) b V ∧ Bk V W.heap.size 69 #[.func (.yield y) #[] #[]] ∧ Bk V gt 9 #[.string ⟨l.toArray⟩] ∧ Bk V gp 61 #[.func (.func 51) #[] #[]]) ∧ (b ≠ some W.heap.size ∧ b ≠ some gt ∧ b ≠ some gp) ∧ clean pre)
    (fun c pre b V => c = .ret ∧ (J (toks l) b V ∨ ∃ s, Jx s b V))
    (fun b => OwnFrom.and (OwnFrom.and (own_map _ (own_mono (HJ.out b) hle)) (OwnFrom.and (bk_own _) (OwnFrom.and (bk_own _) (bk_own _)))) (OwnFrom.and (pure_own _) (pure_own _)))
    (fun c b => OwnFrom.and (pure_own _) (fun _ X Y row h hg hr => h.elim (fun h => .inl (own_mono (HJ.out b) hle _ X Y row h hg hr)) (fun ⟨s, h⟩ => .inr ⟨s, own_mono (HJx.out b) hle s X Y row h hg hr⟩)))
    (fun s b V h => ⟨h.1.2.2.1, h.1.2.2.2⟩) ⟨⟨h2, k_y2, kt, kp⟩, ⟨by simp, by simp, by simp⟩, fun x hx => by cases hx⟩ ?round ?done ?stop
  case round =>
    rintro l2 pre ⟨k, x⟩ rest b V hl2 hx ⟨⟨hj, k_y, k_t, k_p⟩, ⟨n1, n2, n3⟩, hcl⟩ hnl
    clear h2 k_y2 kt kp eg
    gi_wp2
    refine ⟨KeepsBut.refl _ _ _, fun r' r'' hlr => ?_⟩
    obtain ⟨V2, hV2⟩ : ∃ V2, V2 = V.putObj l2 (.loop r'') := ⟨_, rfl⟩
    have hj2 : J (sel pre) b V2 := by rw [hV2]; exact (HJ.out b).putObj _ hj (by omega) hlr rfl
    have k_y2 : Bk V2 W.heap.size 69 #[.func (.yield y) #[] #[]] := by rw [hV2]; exact bk_put k_y hlr _
    have k_t2 : Bk V2 gt 9 #[.string ⟨l.toArray⟩] := by rw [hV2]; exact bk_put k_t hlr _
    have k_p2 : Bk V2 gp 61 #[.func (.func 51) #[] #[]] := by rw [hV2]; exact bk_put k_p hlr _
    have hsz : V.heap.size ≤ V2.heap.size := by rw [hV2]; simp
    rw [← hV2]
    clear hV2 hlr hj k_y k_t k_p
    obtain ⟨V0, hV0⟩ : ∃ V0, V0 = V2 := ⟨_, rfl⟩
    refine stops_from hV0 ?_
    have HV0 := Lib.hid hV0
    clear hV0
    have c_y := k_y2.cell (i := 0) rfl
    have HX := Lib.hid hx
    clear hx
    cases x with
    | nil =>
      have HN : Hid (sel (pre ++ [(k, [])]) = sel pre) := Lib.hid (by rw [sel_app hcl, sel_nil]; show sel pre ++ sel [] = _; rw [show sel [] = [] from rfl, List.append_nil])
      gi_wp2
      exact ⟨b, by rw [HV0.out]; exact KeepsBut.refl _ _ _, FreshRow.same _ _, ⟨by rw [HN.out]; exact hj2, k_y2, k_t2, k_p2⟩, ⟨n1, n2, n3⟩, clean_snoc hcl (by simp)⟩
    | cons c r =>
      have hix : ∀ w, (Instr.index 9 (.string ⟨(c :: r).toArray⟩) (.int .i64 0)).run Tryd.prog w = .ok (.int .u8 (c.toNat : Int)) w := fun w => idx18 (P := Tryd.prog) Tryd.underlying9 rfl 0 c rfl w
      have hne : ¬ (ByteArray.mk (c :: r).toArray).toList = [] := by rw [ByteArray.toList_mk]; simp
      have hne2 : ((ByteArray.mk (c :: r).toArray).toList == []) = false := by rw [ByteArray.toList_mk]; rfl
      have hne3 : (ByteArray.mk (c :: r).toArray).toList.isEmpty = false := by rw [ByteArray.toList_mk]; rfl
      obtain ⟨s, hs⟩ : ∃ s : ByteArray, s = ⟨(c :: r).toArray⟩ := ⟨_, rfl⟩
      rw [← hs] at hix hne hne2 hne3
      have HS := Lib.hid hs
      simp only [← hs]
      clear hs
      by_cases h35 : c = 35
      · have HE : Hid (toks l = sel pre) := Lib.hid (by rw [HT.out, HX.out, sel_app hcl, sel_rem _ _ _ (by rw [h35]; rfl), List.append_nil])
        rw [show (c.toNat : Int) = 35 by rw [h35]; rfl] at hix
        clear h35
        gi_wp2
        refine ⟨fun _ h => (by cases h), ?_⟩
        gi_wp2
        exact ⟨b, by rw [HV0.out]; exact KeepsBut.refl _ _ _, FreshRow.same _ _, rfl, .inl (by rw [HE.out]; exact hj2)⟩
      · have h35b : ((c.toNat : Int) == 35) = false := by
          rw [Bool.eq_false_iff]; intro h; exact h35 (UInt8.toNat_inj.1 (by have := (beq_iff_eq.1 h); simp; omega))
        have h35i : ¬ ((c.toNat : Int) = 35) := by simpa using h35b
        have hsp : toks l = sel pre ++ (k, c :: r) :: sel rest := by rw [HT.out, HX.out, sel_app hcl, sel_word _ _ _ (by simp) (by simpa using h35)]
        have HN : Hid (sel (pre ++ [(k, c :: r)]) = sel pre ++ [(k, c :: r)]) := Lib.hid (by rw [sel_app hcl, sel_word _ _ _ (by simp) (by simpa using h35)]; rfl)
        have hcl2 := clean_snoc (x := (k, c :: r)) hcl (by simpa using h35)
        obtain ⟨fn, tmps, assign, body, hy, hR⟩ := HY.out _ _ _ b V2 hsp hj2
        simp only [penc, sval, ← HS.out] at hy
        clear hsp h35
        generalize c.toNat = cn at *
        gi_wp2
        refine ⟨rfl, hR.mono ?_⟩
        rintro e W4 ⟨b', hk4, hf4, (⟨rfl, hj4⟩ | ⟨rfl, hj4⟩)⟩
        · clear hy hR
          gi_wp2
          exact ⟨b', by rw [HV0.out]; exact hk4.mono hle, hf4.mono hsz, ⟨by rw [HN.out]; exact hj4, hk4.bk (Nat.le_refl _) (fun e => n1 e.symm) k_y2, hk4.bk ogt (fun e => n2 e.symm) k_t2, hk4.bk ogp (fun e => n3 e.symm) k_p2⟩, ⟨hf4.ne k_y2.lt n1, hf4.ne k_t2.lt n2, hf4.ne k_p2.lt n3⟩, hcl2⟩
        · clear hy hR
          gi_wp2
          exact ⟨b', by rw [HV0.out]; exact hk4.mono hle, hf4.mono hsz, rfl, .inr ⟨_, hj4⟩⟩
  case done =>
    rintro D b V hD ⟨⟨hj, k_y, k_t, k_p⟩, ⟨n1, n2, n3⟩, hcl⟩ hK
    gi_wp2
    refine ⟨by simp, .inl ⟨_, _, rfl, run_takeDeferred hK, ?_⟩⟩
    exact ⟨_, results_none rfl _ _ _, ⟨_, rfl⟩, .inl ⟨b, by rw [HT.out]; exact (HJ.out b).putObj _ hj (by omega) hK rfl⟩⟩
  case stop =>
    rintro D c pre b V hD ⟨rfl, h⟩ hK
    gi_wp2
    refine ⟨by simp, .inl ⟨_, _, rfl, run_takeDeferred hK, ?_⟩⟩
    rcases h with hj | ⟨s, hj⟩
    · exact ⟨_, results_none rfl _ _ _, ⟨_, rfl⟩, .inl ⟨b, (HJ.out b).putObj _ hj (by omega) hK rfl⟩⟩
    · exact ⟨_, results_none rfl _ _ _, ⟨_, rfl⟩, .inr ⟨s, b, (HJx.out b).putObj _ hj (by omega) hK rfl⟩⟩

end

end Go.Proofs.YtlhamgcmkodjeaaDoor
