/- Contracts of package word: what lies between the runes that part a text. -/
import Derived.Test.YtlhamgcmkodjeaaDoorMem18
import Derived.Test.YtlhamgcmkodjeaaDoorSeqd
import Derived.Test.YtlhamgcmkodjeaaDoorOpen
import Derived.Shelf.Abstract
import Derived.OwnWalkIn
import Derived.TacticsInMore
import Derived.LoopNIn
import Derived.LoopIn
import Derived.LoopTactic
import Derived.RangeFuncBox
import Derived.RangeFuncCalls
import Derived.WalkMore
import Derived.Sort.CutIn
namespace Go.Proofs.YtlhamgcmkodjeaaDoor
open Go.RowKit Go.Shelf Go.Proofs.Sky
set_option linter.unusedVariables false
set_option linter.unusedSimpArgs false

/-- A piece, as it is yielded. -/
def penc (x : Nat × List UInt8) : Array Value := #[.int .i64 (x.1 : Int), sval x.2]

/-- What parts a text, of runes. -/
def rnl (r : Nat) : Bool := r == 10
def rbl (r : Nat) : Bool := r == 32 || r == 9

theorem rnl_low (c : UInt8) : rnl c.toNat = nl c := by
  unfold rnl nl
  rw [Bool.eq_iff_iff]; simp only [beq_iff_eq]; rw [← UInt8.toNat_inj]; rfl
theorem rbl_low (c : UInt8) : rbl c.toNat = bl c := by
  unfold rbl bl
  rw [Bool.eq_iff_iff]; simp only [Bool.or_eq_true, beq_iff_eq]; rw [← UInt8.toNat_inj, ← UInt8.toNat_inj]; rfl
theorem rnl_high (r : Nat) (h : 128 ≤ r) : rnl r = false := by
  unfold rnl; simp; omega
theorem rbl_high (r : Nat) (h : 128 ≤ r) : rbl r = false := by
  unfold rbl; simp; omega

theorem word_endsLine (r : Nat) (w : World) :
    Calls Tryd.prog 24 #[.int .i32 (r : Int)] w fun e w' => e = .returned (.bool (rnl r)) ∧ w = w' := by
  obtain ⟨b, hb⟩ : ∃ b, rnl r = b := ⟨_, rfl⟩
  have h1 : ((r : Int) == 10) = b := by rw [← hb]; unfold rnl; rw [Bool.eq_iff_iff]; simp only [beq_iff_eq]; omega
  rw [hb]
  clear hb
  generalize (r : Int) = x at *
  go_enter Tryd.func24, Tryd.ntmps24
  go_wp2
  go_ret
  exact ⟨by simp [h1], rfl⟩

theorem word_blank (r : Nat) (w : World) :
    Calls Tryd.prog 51 #[.int .i32 (r : Int)] w fun e w' => e = .returned (.bool (rbl r)) ∧ w = w' := by
  by_cases h1 : r = 32
  · subst h1
    go_enter Tryd.func51, Tryd.ntmps51
    go_wp2
    go_ret
    exact ⟨rfl, rfl⟩
  · obtain ⟨b, hb⟩ : ∃ b, rbl r = b := ⟨_, rfl⟩
    have h2 : ((r : Int) == 9) = b := by rw [← hb]; unfold rbl; rw [Bool.eq_iff_iff]; simp only [Bool.or_eq_true, beq_iff_eq]; omega
    have h3 : ¬ (r : Int) = 32 := by omega
    have h4 : ((r : Int) == 32) = false := by simpa using h3
    rw [hb]
    clear hb h1
    generalize (r : Int) = x at *
    go_enter Tryd.func51, Tryd.ntmps51
    go_wp2
    go_ret
    exact ⟨by simp [h2, h4], rfl⟩

theorem word_pieces (l : List UInt8) (f : Fn) (w : World) :
    Calls Tryd.prog 23 #[.string ⟨l.toArray⟩, .func f #[] #[]] w fun e w' => ∃ gt gp, e = .returned (.func (.func 34) #[] #[.pointer (some ⟨gt, 0, none⟩), .pointer (some ⟨gp, 0, none⟩)]) ∧ Bk w' gt 9 #[.string ⟨l.toArray⟩] ∧ Bk w' gp 61 #[.func f #[] #[]] ∧ (w.heap.size ≤ gt ∧ w.heap.size ≤ gp) ∧ Below w.heap.size w w' := by
  have hmf : ∀ (fn : Fn) (first cap : Array Value) (w : World), (Instr.makeFunc fn first cap).run Tryd.prog w = .ok (.func fn first cap) w := fun _ _ _ _ => rfl
  go_enter Tryd.func23, Tryd.ntmps23
  go_wp2
  go_ret
  refine ⟨_, _, rfl, (Bk.new _ _ _).alloc _, ?_, ⟨by omega, by omega⟩, ((Below.refl _ _).alloc (Nat.le_refl _) _).alloc (by simp) _⟩
  have := Bk.new (w.alloc (.cells #[.string ⟨l.toArray⟩] 9)) #[.func f #[] #[]] 61
  simpa using this

set_option maxRecDepth 100000 in
set_option maxHeartbeats 8000000 in
theorem pieces_gives_nl (gt gp : Nat) (l : List UInt8) (hl : l.length ≤ 1000000) :
    GivesOn Tryd.prog 34 #[.pointer (some ⟨gt, 0, none⟩), .pointer (some ⟨gp, 0, none⟩)] penc (tag 0 (spl nl l)) (fun X => Bk X gt 9 #[.string ⟨l.toArray⟩] ∧ Bk X gp 61 #[.func (.func 24) #[] #[]]) := fun y J Jx W hJ hJx hB0 hY h0 => by
  have hB : ∀ t b X, J t b X → Bk X gt 9 #[.string ⟨l.toArray⟩] ∧ Bk X gp 61 #[.func (.func 24) #[] #[]] := hB0
  obtain ⟨s, hs⟩ : ∃ s : ByteArray, s = ⟨l.toArray⟩ := ⟨_, rfl⟩
  rw [← hs] at hB
  clear hB0
  have hbW := hB _ _ _ h0
  have c_t : W.cell? ⟨gt, 0, none⟩ = some (.string s) := hbW.1.cell rfl
  have HS := Lib.hid hs
  have hsz := size18 hs
  clear hs
  obtain ⟨n, hn⟩ : ∃ n, n = l.length := ⟨_, rfl⟩
  have HN := Lib.hid hn
  have hn2 : n ≤ 1000000 := by omega
  have HSZ : Hid (s.size = n) := Lib.hid (by rw [hsz, hn])
  clear hn hsz
  have ef : ∀ args w, (callFunc 24 args).run Tryd.prog w = .ok (.enter 24 args) w := enters_of Tryd.func24 (by kernel_rfl) rfl
  refine callsIn_of_wp Tryd.func34 rfl trivial ?_ rfl
  simp only [Tryd.ntmps34, List.size_toArray, List.length_cons, List.length_nil, Nat.reduceAdd, Nat.reduceSub, Array.replicate_succ, Array.replicate_zero, List.push_toArray, List.append_toArray, List.nil_append, List.cons_append]
  have HY := Lib.hid hY
  have HB := Lib.hid hB
  have HJ := Lib.hid hJ
  have HJx := Lib.hid hJx
  have igt := hbW.1.lt
  have igp := hbW.2.lt
  clear hY hB hJ hJx hbW
  gi_upto_region 2 with (fail)
  obtain ⟨W1, hW1⟩ : ∃ W1, W1 = W.iter s 0 := ⟨_, rfl⟩
  have i1 : W1.heap[W.heap.size]? = some (.stringIter s 0) := by rw [hW1]; exact World.iter_heap W s 0
  have j1 : J [] none W1 := by rw [hW1]; exact (HJ.out none).alloc _ h0
  rw [← hW1]
  clear hW1 h0 c_t
  obtain ⟨gi, hgi⟩ : ∃ gi, gi = W.heap.size := ⟨_, rfl⟩
  have HGI := Lib.hid hgi
  rw [← hgi] at i1 ⊢
  rw [← hgi] at igt igp
  clear hgi
  gi_wp2
  gi_loopw [4] (fun f wr => ∃ (pos f0 : Nat) (D : List (List UInt8)) (x : List UInt8) (b : Option Nat), pos ≤ n ∧ f = .int .i64 (f0 : Int) ∧ Hid (spl nl (l.take pos) = D ++ [x] ∧ f0 + x.length = pos ∧ (l.take pos).drop f0 = x ∧ reach 0 D = f0) ∧ J (tag 0 D) b wr ∧ b ≠ some gi ∧ wr.heap[gi]? = some (.stringIter s pos)) (fun _ wr => n - wr.iterPos gi)
  case atStart => exact ⟨0, 0, [], [], none, by omega, rfl, Lib.hid ⟨rfl, rfl, rfl, rfl⟩, j1, by simp, i1⟩
  case round =>
    clear i1 j1
    obtain ⟨pos, f0, D, x, b, hpos, rfl, HD, hj, hb, hi⟩ := hrel
    have hBr := HB.out _ _ _ hj
    have c_t : wr.cell? ⟨gt, 0, none⟩ = some (.string s) := hBr.1.cell rfl
    have c_p : wr.cell? ⟨gp, 0, none⟩ = some (.func (.func 24) #[] #[]) := hBr.2.cell rfl
    obtain ⟨hD1, hD2, hD3, hD4⟩ := HD.out
    have hnl := HN.out
    have hf0 : f0 ≤ pos := by omega
    by_cases hlt : pos < n
    · have hlt2 : pos < s.size := by rw [HSZ.out]; exact hlt
      have hpl : pos < l.length := by omega
      have hnx := fun ty => next18 (P := Tryd.prog) hi hlt2 ty
      have hg0 : (s[pos]'hlt2) = l[pos] := by have e := HS.out; subst e; rfl
      have htl := decode_tail s pos hlt2
      obtain ⟨V, hV⟩ : ∃ V, V = wr.putObj gi (.stringIter s (pos + (Utf8.decode s pos).2)) := ⟨_, rfl⟩
      have hjV : J (tag 0 D) b V := by rw [hV]; exact (HJ.out b).putObj _ hj (by have := HGI.out; omega) hi rfl
      have hiV : V.heap[gi]? = some (.stringIter s (pos + (Utf8.decode s pos).2)) := by rw [hV]; exact World.putObj_heap_same (Array.getElem?_eq_some_iff.1 hi).1
      have hBV := HB.out _ _ _ hjV
      have d_t : V.cell? ⟨gt, 0, none⟩ = some (.string s) := hBV.1.cell rfl
      have d_p : V.cell? ⟨gp, 0, none⟩ = some (.func (.func 24) #[] #[]) := hBV.2.cell rfl
      rw [← hV] at hnx
      have HIT : Hid (wr.iterPos gi = pos) := Lib.hid (by unfold World.iterPos; rw [hi])
      clear hV hi hBV hj c_t c_p hBr
      by_cases hc : nl l[pos] = true
      · have hlow : (l[pos]).toNat < 128 := by
          rcases Nat.lt_or_ge (l[pos]).toNat 128 with h | h
          · exact h
          · have := rnl_low l[pos]; rw [rnl_high _ h, hc] at this; cases this
        have hde : Utf8.decode s pos = ((l[pos]).toNat, 1) := by rw [rune_part s pos hlt2 (by rw [hg0]; exact hlow), hg0]
        rw [hde] at hnx hiV
        dsimp only at hnx hiV
        have KP := word_endsLine (l[pos]).toNat
        rw [rnl_low, hc] at KP
        replace KP := Lib.hid KP
        have hsl := fun w => slc18 (P := Tryd.prog) Tryd.underlying9 HS.out f0 pos hf0 (by omega) w
        have hxx : (l.drop f0).take (pos - f0) = x := by rw [← hD3, List.drop_take]
        rw [hxx] at hsl
        have hts : l.take (pos + 1) = l.take pos ++ [l[pos]] := by rw [List.take_add_one, List.getElem?_eq_getElem hpl]; rfl
        have hsp : spl nl (l.take (pos + 1)) = (D ++ [x]) ++ [[]] := by rw [hts]; exact spl_snoc hc hD1
        have hall : tag 0 (spl nl l) = tag 0 D ++ (f0, x) :: tag (pos + 1) (spl nl (l.drop (pos + 1))) := by
          have e : l = l.take pos ++ l[pos] :: l.drop (pos + 1) := by rw [← List.drop_eq_getElem_cons hpl, List.take_append_drop]
          have e2 : spl nl l = (D ++ [x]) ++ spl nl (l.drop (pos + 1)) := by
            conv => lhs; rw [e]
            rw [spl_sep hc, hD1]
          rw [e2, tag_append, tag_append, reach_append, hD4, List.append_assoc]
          show tag 0 D ++ ([(f0, x)] ++ tag (f0 + x.length + 1) _) = _
          rw [hD2]
          rfl
        have htg : tag 0 (D ++ [x]) = tag 0 D ++ [(f0, x)] := by rw [tag_append, hD4]; rfl
        have hdr : (l.take (pos + 1)).drop (pos + 1) = [] := by rw [List.drop_eq_nil_iff]; simp; omega
        have hre : reach 0 (D ++ [x]) = pos + 1 := by rw [reach_append, hD4]; show f0 + x.length + 1 = _; omega
        have HNX : Hid (spl nl (l.take (pos + 1)) = (D ++ [x]) ++ [[]] ∧ (pos + 1) + ([] : List UInt8).length = pos + 1 ∧ (l.take (pos + 1)).drop (pos + 1) = [] ∧ reach 0 (D ++ [x]) = pos + 1) := Lib.hid ⟨hsp, rfl, hdr, hre⟩
        obtain ⟨fn, tmps, assign, body, hy, hR⟩ := HY.out _ _ _ _ V hall hjV
        simp only [penc, sval] at hy
        have hgl := (Array.getElem?_eq_some_iff.1 hiV).1
        have HTG := Lib.hid htg
        have hne := hb
        clear hxx hts hsp hall htg hdr hre hD1 hD2 hD3 hD4 HD hnl hde hlow hc hg0 htl hb
        generalize (l[pos]).toNat = rr at *
        clear hpl
        gi_wp2_with (refine ⟨trivial, rfl, ?_⟩; gi_at_call 24; refine (callsIn_wide.2 (KP.out _)).mono ?_; rintro e w' ⟨rfl, rfl⟩)
        refine ⟨rfl, hR.mono ?_⟩
        rintro e W3 ⟨b', hk3, hf3, (⟨rfl, hj3⟩ | ⟨rfl, hj3⟩)⟩
        · have hi3 := hk3.2 gi _ (Nat.le_of_eq HGI.out.symm) (fun e => hne e.symm) hiV
          have hne3 := hf3.ne hgl hne
          clear hy hR hk3 hf3 hjV hiV hne d_t d_p
          gi_wp2
          go_roundw
          case rel => exact ⟨pos + 1, pos + 1, D ++ [x], [], b', by omega, by go_num, HNX, by rw [HTG.out]; exact hj3, hne3, hi3⟩
          case measure => rw [HIT.out]; unfold World.iterPos; rw [hi3]; simp; omega
        · clear hy hR hk3 hf3 hjV hiV hne d_t d_p
          gi_wp2
          refine bodyPost_ret (results_none rfl _ _ _) rfl ?_
          exact ⟨⟨_, rfl⟩, .inr ⟨_, b', hj3⟩⟩
      · have hcf : nl l[pos] = false := by simpa using hc
        obtain ⟨wd, hwd⟩ : ∃ wd, wd = (Utf8.decode s pos).2 := ⟨_, rfl⟩
        have hw1 : 1 ≤ wd := by
          rw [hwd]
          rcases Nat.lt_or_ge (l[pos]).toNat 128 with h | h
          · rw [rune_part s pos hlt2 (by rw [hg0]; exact h)]; exact Nat.le_refl _
          · exact (decode_high s pos hlt2 (by rw [hg0]; exact h)).2
        have hpr : rnl (Utf8.decode s pos).1 = false := by
          rcases Nat.lt_or_ge (l[pos]).toNat 128 with h | h
          · rw [rune_part s pos hlt2 (by rw [hg0]; exact h), hg0]
            show rnl (l[pos]).toNat = false
            rw [rnl_low, hcf]
          · exact rnl_high _ (decode_high s pos hlt2 (by rw [hg0]; exact h)).1
        have KP := word_endsLine (Utf8.decode s pos).1
        rw [hpr] at KP
        replace KP := Lib.hid KP
        rw [← hwd] at hiV htl
        have hwn : pos + wd ≤ n := by have := htl.1; rw [HSZ.out] at this; exact this
        have hts : l.take (pos + wd) = l.take pos ++ (l.drop pos).take wd := List.take_add
        have hfree : ∀ c ∈ (l.drop pos).take wd, nl c = false := by
          intro c hcm
          obtain ⟨i, hi, e⟩ := List.getElem_of_mem hcm
          have hi2 : i < wd := by simp at hi; omega
          have hi3 : pos + i < l.length := by simp at hi; omega
          have e3 : c = l[pos + i] := by rw [← e]; simp
          rw [e3]
          by_cases h0 : i = 0
          · subst h0; exact hcf
          · have hsl2 : pos + i < s.size := by rw [HSZ.out]; omega
            have h8 := htl.2 (pos + i) hsl2 (by omega) (by omega)
            have hgi' : (s[pos + i]'hsl2) = l[pos + i] := by have e := HS.out; subst e; rfl
            rw [hgi'] at h8
            have := rnl_low l[pos + i]
            rw [rnl_high _ h8] at this
            exact this.symm
        have hsp : spl nl (l.take (pos + wd)) = D ++ [x ++ (l.drop pos).take wd] := by rw [hts]; exact spl_add hfree _ D x hD1
        obtain ⟨h1, h2⟩ := spl_cut _ _ _ hsp
        rw [hD4] at h1 h2
        have HNX : Hid (spl nl (l.take (pos + wd)) = D ++ [x ++ (l.drop pos).take wd] ∧ f0 + (x ++ (l.drop pos).take wd).length = pos + wd ∧ (l.take (pos + wd)).drop f0 = x ++ (l.drop pos).take wd ∧ reach 0 D = f0) := Lib.hid ⟨hsp, by rw [h1]; simp; omega, h2, hD4⟩
        have hne := hb
        have hle31 := decode_le s pos
        clear hts hfree hsp h1 h2 hD1 hD2 hD3 hD4 HD hnl hcf hc hg0 htl hb hpr hwd hle31
        generalize (Utf8.decode s pos).1 = rr at *
        clear hpl
        gi_wp2_with (refine ⟨trivial, rfl, ?_⟩; gi_at_call 24; refine (callsIn_wide.2 (KP.out _)).mono ?_; rintro e w' ⟨rfl, rfl⟩)
        go_roundw
        case rel => exact ⟨pos + wd, f0, D, _, b, by omega, rfl, HNX, hjV, hne, hiV⟩
        case measure => rw [HIT.out]; unfold World.iterPos; rw [hiV]; simp; omega
    · obtain rfl : pos = n := by omega
      have hlt2 : ¬ pos < s.size := by rw [HSZ.out]; exact hlt
      have hnx := fun ty => last18 (P := Tryd.prog) hi hlt2 ty
      have htk : l.take pos = l := List.take_of_length_le (by omega)
      rw [htk] at hD1 hD3
      have hsf := fun w => slf18 (P := Tryd.prog) Tryd.underlying9 HS.out f0 (by omega) w
      rw [hD3] at hsf
      have hall : tag 0 (spl nl l) = tag 0 D ++ (f0, x) :: [] := by rw [hD1, tag_append, hD4]; rfl
      obtain ⟨fn, tmps, assign, body, hy, hR⟩ := HY.out _ _ _ _ wr hall hj
      simp only [penc, sval] at hy
      have HALL : Hid (tag 0 (spl nl l) = tag 0 D ++ [(f0, x)]) := Lib.hid hall
      clear hall htk hD1 hD2 hD3 hD4 HD hnl hlt2 hb hi hBr
      gi_wp2
      refine ⟨rfl, hR.mono ?_⟩
      rintro e W3 ⟨b', hk3, hf3, (⟨rfl, hj3⟩ | ⟨rfl, hj3⟩)⟩
      · clear hy hR hk3 hf3 hj c_t c_p
        gi_wp2
        go_end0
        exact ⟨⟨_, rfl⟩, .inl ⟨b', by rw [HALL.out]; exact hj3⟩⟩
      · clear hy hR hk3 hf3 hj c_t c_p
        gi_wp2
        go_end0
        exact ⟨⟨_, rfl⟩, .inr ⟨_, b', hj3⟩⟩

set_option maxRecDepth 100000 in
set_option maxHeartbeats 8000000 in
theorem pieces_gives_bl (gt gp : Nat) (l : List UInt8) (hl : l.length ≤ 1000000) :
    GivesOn Tryd.prog 34 #[.pointer (some ⟨gt, 0, none⟩), .pointer (some ⟨gp, 0, none⟩)] penc (tag 0 (spl bl l)) (fun X => Bk X gt 9 #[.string ⟨l.toArray⟩] ∧ Bk X gp 61 #[.func (.func 51) #[] #[]]) := fun y J Jx W hJ hJx hB0 hY h0 => by
  have hB : ∀ t b X, J t b X → Bk X gt 9 #[.string ⟨l.toArray⟩] ∧ Bk X gp 61 #[.func (.func 51) #[] #[]] := hB0
  obtain ⟨s, hs⟩ : ∃ s : ByteArray, s = ⟨l.toArray⟩ := ⟨_, rfl⟩
  rw [← hs] at hB
  clear hB0
  have hbW := hB _ _ _ h0
  have c_t : W.cell? ⟨gt, 0, none⟩ = some (.string s) := hbW.1.cell rfl
  have HS := Lib.hid hs
  have hsz := size18 hs
  clear hs
  obtain ⟨n, hn⟩ : ∃ n, n = l.length := ⟨_, rfl⟩
  have HN := Lib.hid hn
  have hn2 : n ≤ 1000000 := by omega
  have HSZ : Hid (s.size = n) := Lib.hid (by rw [hsz, hn])
  clear hn hsz
  have ef : ∀ args w, (callFunc 51 args).run Tryd.prog w = .ok (.enter 51 args) w := enters_of Tryd.func51 (by kernel_rfl) rfl
  refine callsIn_of_wp Tryd.func34 rfl trivial ?_ rfl
  simp only [Tryd.ntmps34, List.size_toArray, List.length_cons, List.length_nil, Nat.reduceAdd, Nat.reduceSub, Array.replicate_succ, Array.replicate_zero, List.push_toArray, List.append_toArray, List.nil_append, List.cons_append]
  have HY := Lib.hid hY
  have HB := Lib.hid hB
  have HJ := Lib.hid hJ
  have HJx := Lib.hid hJx
  have igt := hbW.1.lt
  have igp := hbW.2.lt
  clear hY hB hJ hJx hbW
  gi_upto_region 2 with (fail)
  obtain ⟨W1, hW1⟩ : ∃ W1, W1 = W.iter s 0 := ⟨_, rfl⟩
  have i1 : W1.heap[W.heap.size]? = some (.stringIter s 0) := by rw [hW1]; exact World.iter_heap W s 0
  have j1 : J [] none W1 := by rw [hW1]; exact (HJ.out none).alloc _ h0
  rw [← hW1]
  clear hW1 h0 c_t
  obtain ⟨gi, hgi⟩ : ∃ gi, gi = W.heap.size := ⟨_, rfl⟩
  have HGI := Lib.hid hgi
  rw [← hgi] at i1 ⊢
  rw [← hgi] at igt igp
  clear hgi
  gi_wp2
  gi_loopw [4] (fun f wr => ∃ (pos f0 : Nat) (D : List (List UInt8)) (x : List UInt8) (b : Option Nat), pos ≤ n ∧ f = .int .i64 (f0 : Int) ∧ Hid (spl bl (l.take pos) = D ++ [x] ∧ f0 + x.length = pos ∧ (l.take pos).drop f0 = x ∧ reach 0 D = f0) ∧ J (tag 0 D) b wr ∧ b ≠ some gi ∧ wr.heap[gi]? = some (.stringIter s pos)) (fun _ wr => n - wr.iterPos gi)
  case atStart => exact ⟨0, 0, [], [], none, by omega, rfl, Lib.hid ⟨rfl, rfl, rfl, rfl⟩, j1, by simp, i1⟩
  case round =>
    clear i1 j1
    obtain ⟨pos, f0, D, x, b, hpos, rfl, HD, hj, hb, hi⟩ := hrel
    have hBr := HB.out _ _ _ hj
    have c_t : wr.cell? ⟨gt, 0, none⟩ = some (.string s) := hBr.1.cell rfl
    have c_p : wr.cell? ⟨gp, 0, none⟩ = some (.func (.func 51) #[] #[]) := hBr.2.cell rfl
    obtain ⟨hD1, hD2, hD3, hD4⟩ := HD.out
    have hnl := HN.out
    have hf0 : f0 ≤ pos := by omega
    by_cases hlt : pos < n
    · have hlt2 : pos < s.size := by rw [HSZ.out]; exact hlt
      have hpl : pos < l.length := by omega
      have hnx := fun ty => next18 (P := Tryd.prog) hi hlt2 ty
      have hg0 : (s[pos]'hlt2) = l[pos] := by have e := HS.out; subst e; rfl
      have htl := decode_tail s pos hlt2
      obtain ⟨V, hV⟩ : ∃ V, V = wr.putObj gi (.stringIter s (pos + (Utf8.decode s pos).2)) := ⟨_, rfl⟩
      have hjV : J (tag 0 D) b V := by rw [hV]; exact (HJ.out b).putObj _ hj (by have := HGI.out; omega) hi rfl
      have hiV : V.heap[gi]? = some (.stringIter s (pos + (Utf8.decode s pos).2)) := by rw [hV]; exact World.putObj_heap_same (Array.getElem?_eq_some_iff.1 hi).1
      have hBV := HB.out _ _ _ hjV
      have d_t : V.cell? ⟨gt, 0, none⟩ = some (.string s) := hBV.1.cell rfl
      have d_p : V.cell? ⟨gp, 0, none⟩ = some (.func (.func 51) #[] #[]) := hBV.2.cell rfl
      rw [← hV] at hnx
      have HIT : Hid (wr.iterPos gi = pos) := Lib.hid (by unfold World.iterPos; rw [hi])
      clear hV hi hBV hj c_t c_p hBr
      by_cases hc : bl l[pos] = true
      · have hlow : (l[pos]).toNat < 128 := by
          rcases Nat.lt_or_ge (l[pos]).toNat 128 with h | h
          · exact h
          · have := rbl_low l[pos]; rw [rbl_high _ h, hc] at this; cases this
        have hde : Utf8.decode s pos = ((l[pos]).toNat, 1) := by rw [rune_part s pos hlt2 (by rw [hg0]; exact hlow), hg0]
        rw [hde] at hnx hiV
        dsimp only at hnx hiV
        have KP := word_blank (l[pos]).toNat
        rw [rbl_low, hc] at KP
        replace KP := Lib.hid KP
        have hsl := fun w => slc18 (P := Tryd.prog) Tryd.underlying9 HS.out f0 pos hf0 (by omega) w
        have hxx : (l.drop f0).take (pos - f0) = x := by rw [← hD3, List.drop_take]
        rw [hxx] at hsl
        have hts : l.take (pos + 1) = l.take pos ++ [l[pos]] := by rw [List.take_add_one, List.getElem?_eq_getElem hpl]; rfl
        have hsp : spl bl (l.take (pos + 1)) = (D ++ [x]) ++ [[]] := by rw [hts]; exact spl_snoc hc hD1
        have hall : tag 0 (spl bl l) = tag 0 D ++ (f0, x) :: tag (pos + 1) (spl bl (l.drop (pos + 1))) := by
          have e : l = l.take pos ++ l[pos] :: l.drop (pos + 1) := by rw [← List.drop_eq_getElem_cons hpl, List.take_append_drop]
          have e2 : spl bl l = (D ++ [x]) ++ spl bl (l.drop (pos + 1)) := by
            conv => lhs; rw [e]
            rw [spl_sep hc, hD1]
          rw [e2, tag_append, tag_append, reach_append, hD4, List.append_assoc]
          show tag 0 D ++ ([(f0, x)] ++ tag (f0 + x.length + 1) _) = _
          rw [hD2]
          rfl
        have htg : tag 0 (D ++ [x]) = tag 0 D ++ [(f0, x)] := by rw [tag_append, hD4]; rfl
        have hdr : (l.take (pos + 1)).drop (pos + 1) = [] := by rw [List.drop_eq_nil_iff]; simp; omega
        have hre : reach 0 (D ++ [x]) = pos + 1 := by rw [reach_append, hD4]; show f0 + x.length + 1 = _; omega
        have HNX : Hid (spl bl (l.take (pos + 1)) = (D ++ [x]) ++ [[]] ∧ (pos + 1) + ([] : List UInt8).length = pos + 1 ∧ (l.take (pos + 1)).drop (pos + 1) = [] ∧ reach 0 (D ++ [x]) = pos + 1) := Lib.hid ⟨hsp, rfl, hdr, hre⟩
        obtain ⟨fn, tmps, assign, body, hy, hR⟩ := HY.out _ _ _ _ V hall hjV
        simp only [penc, sval] at hy
        have hgl := (Array.getElem?_eq_some_iff.1 hiV).1
        have HTG := Lib.hid htg
        have hne := hb
        clear hxx hts hsp hall htg hdr hre hD1 hD2 hD3 hD4 HD hnl hde hlow hc hg0 htl hb
        generalize (l[pos]).toNat = rr at *
        clear hpl
        gi_wp2_with (refine ⟨trivial, rfl, ?_⟩; gi_at_call 51; refine (callsIn_wide.2 (KP.out _)).mono ?_; rintro e w' ⟨rfl, rfl⟩)
        refine ⟨rfl, hR.mono ?_⟩
        rintro e W3 ⟨b', hk3, hf3, (⟨rfl, hj3⟩ | ⟨rfl, hj3⟩)⟩
        · have hi3 := hk3.2 gi _ (Nat.le_of_eq HGI.out.symm) (fun e => hne e.symm) hiV
          have hne3 := hf3.ne hgl hne
          clear hy hR hk3 hf3 hjV hiV hne d_t d_p
          gi_wp2
          go_roundw
          case rel => exact ⟨pos + 1, pos + 1, D ++ [x], [], b', by omega, by go_num, HNX, by rw [HTG.out]; exact hj3, hne3, hi3⟩
          case measure => rw [HIT.out]; unfold World.iterPos; rw [hi3]; simp; omega
        · clear hy hR hk3 hf3 hjV hiV hne d_t d_p
          gi_wp2
          refine bodyPost_ret (results_none rfl _ _ _) rfl ?_
          exact ⟨⟨_, rfl⟩, .inr ⟨_, b', hj3⟩⟩
      · have hcf : bl l[pos] = false := by simpa using hc
        obtain ⟨wd, hwd⟩ : ∃ wd, wd = (Utf8.decode s pos).2 := ⟨_, rfl⟩
        have hw1 : 1 ≤ wd := by
          rw [hwd]
          rcases Nat.lt_or_ge (l[pos]).toNat 128 with h | h
          · rw [rune_part s pos hlt2 (by rw [hg0]; exact h)]; exact Nat.le_refl _
          · exact (decode_high s pos hlt2 (by rw [hg0]; exact h)).2
        have hpr : rbl (Utf8.decode s pos).1 = false := by
          rcases Nat.lt_or_ge (l[pos]).toNat 128 with h | h
          · rw [rune_part s pos hlt2 (by rw [hg0]; exact h), hg0]
            show rbl (l[pos]).toNat = false
            rw [rbl_low, hcf]
          · exact rbl_high _ (decode_high s pos hlt2 (by rw [hg0]; exact h)).1
        have KP := word_blank (Utf8.decode s pos).1
        rw [hpr] at KP
        replace KP := Lib.hid KP
        rw [← hwd] at hiV htl
        have hwn : pos + wd ≤ n := by have := htl.1; rw [HSZ.out] at this; exact this
        have hts : l.take (pos + wd) = l.take pos ++ (l.drop pos).take wd := List.take_add
        have hfree : ∀ c ∈ (l.drop pos).take wd, bl c = false := by
          intro c hcm
          obtain ⟨i, hi, e⟩ := List.getElem_of_mem hcm
          have hi2 : i < wd := by simp at hi; omega
          have hi3 : pos + i < l.length := by simp at hi; omega
          have e3 : c = l[pos + i] := by rw [← e]; simp
          rw [e3]
          by_cases h0 : i = 0
          · subst h0; exact hcf
          · have hsl2 : pos + i < s.size := by rw [HSZ.out]; omega
            have h8 := htl.2 (pos + i) hsl2 (by omega) (by omega)
            have hgi' : (s[pos + i]'hsl2) = l[pos + i] := by have e := HS.out; subst e; rfl
            rw [hgi'] at h8
            have := rbl_low l[pos + i]
            rw [rbl_high _ h8] at this
            exact this.symm
        have hsp : spl bl (l.take (pos + wd)) = D ++ [x ++ (l.drop pos).take wd] := by rw [hts]; exact spl_add hfree _ D x hD1
        obtain ⟨h1, h2⟩ := spl_cut _ _ _ hsp
        rw [hD4] at h1 h2
        have HNX : Hid (spl bl (l.take (pos + wd)) = D ++ [x ++ (l.drop pos).take wd] ∧ f0 + (x ++ (l.drop pos).take wd).length = pos + wd ∧ (l.take (pos + wd)).drop f0 = x ++ (l.drop pos).take wd ∧ reach 0 D = f0) := Lib.hid ⟨hsp, by rw [h1]; simp; omega, h2, hD4⟩
        have hne := hb
        have hle31 := decode_le s pos
        clear hts hfree hsp h1 h2 hD1 hD2 hD3 hD4 HD hnl hcf hc hg0 htl hb hpr hwd hle31
        generalize (Utf8.decode s pos).1 = rr at *
        clear hpl
        gi_wp2_with (refine ⟨trivial, rfl, ?_⟩; gi_at_call 51; refine (callsIn_wide.2 (KP.out _)).mono ?_; rintro e w' ⟨rfl, rfl⟩)
        go_roundw
        case rel => exact ⟨pos + wd, f0, D, _, b, by omega, rfl, HNX, hjV, hne, hiV⟩
        case measure => rw [HIT.out]; unfold World.iterPos; rw [hiV]; simp; omega
    · obtain rfl : pos = n := by omega
      have hlt2 : ¬ pos < s.size := by rw [HSZ.out]; exact hlt
      have hnx := fun ty => last18 (P := Tryd.prog) hi hlt2 ty
      have htk : l.take pos = l := List.take_of_length_le (by omega)
      rw [htk] at hD1 hD3
      have hsf := fun w => slf18 (P := Tryd.prog) Tryd.underlying9 HS.out f0 (by omega) w
      rw [hD3] at hsf
      have hall : tag 0 (spl bl l) = tag 0 D ++ (f0, x) :: [] := by rw [hD1, tag_append, hD4]; rfl
      obtain ⟨fn, tmps, assign, body, hy, hR⟩ := HY.out _ _ _ _ wr hall hj
      simp only [penc, sval] at hy
      have HALL : Hid (tag 0 (spl bl l) = tag 0 D ++ [(f0, x)]) := Lib.hid hall
      clear hall htk hD1 hD2 hD3 hD4 HD hnl hlt2 hb hi hBr
      gi_wp2
      refine ⟨rfl, hR.mono ?_⟩
      rintro e W3 ⟨b', hk3, hf3, (⟨rfl, hj3⟩ | ⟨rfl, hj3⟩)⟩
      · clear hy hR hk3 hf3 hj c_t c_p
        gi_wp2
        go_end0
        exact ⟨⟨_, rfl⟩, .inl ⟨b', by rw [HALL.out]; exact hj3⟩⟩
      · clear hy hR hk3 hf3 hj c_t c_p
        gi_wp2
        go_end0
        exact ⟨⟨_, rfl⟩, .inr ⟨_, b', hj3⟩⟩

end Go.Proofs.YtlhamgcmkodjeaaDoor
