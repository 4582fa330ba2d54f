/- The document's answers: a text's lines. -/
import Derived.Test.YtlhamgcmkodjeaaDoorMem18
import Derived.Test.YtlhamgcmkodjeaaDoorOpen
import Derived.LoopTactic
import Derived.StillTailTactics
import Derived.Deep.DeepCutAuto
import Derived.OwnWalk
namespace Go.Proofs.YtlhamgcmkodjeaaDoor
open Go.RowKit Go.Proofs.Sky
set_option linter.unusedVariables false
set_option linter.unusedSimpArgs false

theorem ref18_blank (c : UInt8) (w : World) :
    Calls Tryd.prog 37 #[.int .u8 (c.toNat : Int)] w fun e w' => e = .returned (.bool (bl c)) ∧ w = w' := by
  have hb : bl c = (decide ((c.toNat : Int) = 32) || decide ((c.toNat : Int) = 9)) := by
    unfold bl
    congr 1
    · rw [Bool.eq_iff_iff]; simp only [beq_iff_eq, decide_eq_true_eq]; rw [← UInt8.toNat_inj]; simp; omega
    · rw [Bool.eq_iff_iff]; simp only [beq_iff_eq, decide_eq_true_eq]; rw [← UInt8.toNat_inj]; simp; omega
  rw [hb]
  generalize (c.toNat : Int) = n at *
  clear hb
  by_cases h1 : n = 32
  · subst h1
    go_enter Tryd.func37, Tryd.ntmps37
    go_wp2
    go_ret
    exact ⟨rfl, rfl⟩
  · have e1 : decide (n = 32) = false := decide_eq_false h1
    rw [e1, Bool.false_or]
    have e2 : (n == 32) = false := by simpa using h1
    obtain ⟨b, hb⟩ : ∃ b, decide (n = 9) = b := ⟨_, rfl⟩
    have hb2 : (n == 9) = b := by rw [← hb]; rw [Bool.eq_iff_iff]; simp
    rw [hb]
    go_enter Tryd.func37, Tryd.ntmps37
    go_wp2
    go_ret
    exact ⟨by simp [e2, hb2], rfl⟩

set_option maxRecDepth 100000 in
set_option maxHeartbeats 4000000 in
theorem ref18_Lines (l : List UInt8) (hl : l.length ≤ 100000) (w : World) :
    Calls Tryd.prog 26 #[.string ⟨l.toArray⟩] w fun e w' => ∃ u, e = .returned u ∧ StrRow w' w.heap.size u (spl nl l) ∧ Below w.heap.size w w' := by
  obtain ⟨i0, hi0, hz0, hz1, hz2⟩ := info_parts str_info
  obtain ⟨s, hs⟩ : ∃ s : ByteArray, s = ⟨l.toArray⟩ := ⟨_, rfl⟩
  rw [← hs]
  have HS := Lib.hid hs
  have hlen := fun ty w => len18 (P := Tryd.prog) Tryd.underlying9 hs ty w
  clear hs
  obtain ⟨n, hn⟩ : ∃ n, n = l.length := ⟨_, rfl⟩
  have HN := Lib.hid hn
  rw [← hn] at hlen hl
  clear hn
  go_enter Tryd.func26, Tryd.ntmps26
  go_wp2
  go_loopw [3, 4, 5] (fun u f i wr => ∃ (k f0 : Nat) (D : List (List UInt8)) (x : List UInt8), k ≤ n ∧ i = .int .i64 k ∧ f = .int .i64 (f0 : Int) ∧ Hid (spl nl (l.take k) = D ++ [x] ∧ f0 + x.length = k ∧ (l.take k).drop f0 = x ∧ D.length ≤ k) ∧ StrRow wr w.heap.size u D ∧ Below w.heap.size w wr) (fun _ _ i _ => n - (intOf i).toNat)
  case atStart => exact ⟨0, 0, [], [], by omega, rfl, rfl, Lib.hid ⟨rfl, rfl, rfl, by simp⟩, World.ownsRow_nil _ _ _ _, Below.refl _ _⟩
  case round =>
    obtain ⟨k, f0, D, x, hk, rfl, rfl, HD, hu, BO⟩ := hrel
    have hnl := HN.out
    obtain ⟨hD1, hD2, hD3, hD4⟩ := HD.out
    have hfk : f0 ≤ k := by omega
    by_cases hlt : k < n
    · have hkl : k < l.length := by omega
      have hix := fun w => idx18 (P := Tryd.prog) Tryd.underlying9 HS.out k l[k] (List.getElem?_eq_getElem hkl) w
      have hts : l.take (k + 1) = l.take k ++ [l[k]] := by rw [List.take_add_one, List.getElem?_eq_getElem hkl]; rfl
      obtain ⟨c, hc⟩ : ∃ c, c = l[k] := ⟨_, rfl⟩
      rw [← hc] at hix hts
      clear hc
      by_cases h10 : c = 10
      · have hsp : spl nl (l.take (k + 1)) = (D ++ [x]) ++ [[]] := by rw [hts]; exact spl_snoc (by rw [h10]; rfl) hD1
        have hsl := fun w => slc18 (P := Tryd.prog) Tryd.underlying9 HS.out f0 k hfk (by omega) w
        have hxx : (l.drop f0).take (k - f0) = x := by rw [← hD3, List.drop_take]
        rw [hxx] at hsl
        have hdr : (l.take (k + 1)).drop (k + 1) = [] := by rw [List.drop_eq_nil_iff]; simp; omega
        have HNX : Hid (spl nl (l.take (k + 1)) = (D ++ [x]) ++ [[]] ∧ (k + 1) + ([] : List UInt8).length = k + 1 ∧ (l.take (k + 1)).drop (k + 1) = [] ∧ (D ++ [x]).length ≤ k + 1) := Lib.hid ⟨hsp, rfl, hdr, by simp; omega⟩
        subst h10
        obtain ⟨p1, hp1⟩ : ∃ p : BW wr, p.w = wr := ⟨BW.start wr, rfl⟩
        have B1 := BO
        rw [← hp1]
        clear hp1 hsp hxx hdr hts hD1 hD3 hnl hkl HD
        go_wp2_with (at_builtin; refine wpList_append_at rfl _ _ 38 rfl w.heap.size 9 i0 (.string ⟨#[]⟩) 1 16 Tryd.underlying38 hi0 hz0 hz1 hz2 rfl (by decide) _ _ _ rfl (World.ownsRow.alloc (owns_below hu (BW.h _)) _) ⟨_, 0, none⟩ 1 1 [sval x] rfl rfl ?g1 ?g2 ?g3 ?g4 ?g5 ?_)
        case g1 => exact cell_one_new _ _ _
        case g2 => first | (intro u hu; simp only [List.mem_cons, List.not_mem_nil, or_false] at hu; rw [hu]; rfl) | rfl | (simp [Value.oneCell', sval])
        case g3 => unfold maxLen; omega
        case g4 => omega
        case g5 => have := (bw_below B1 p1).size; simp; omega
        intro v' w1 hown hgrow hat
        have hb1 : Below w.heap.size w w1 := ((bw_below B1 p1).alloc (bw_below B1 p1).size _).grown hgrow (by have := (bw_below B1 p1).size; simp; omega) (fun j ej => by have := (World.ownsRow.lt hu _ ej).1; omega)
        have r1 : StrRow w1 w.heap.size v' (D ++ [x]) := by unfold StrRow; rw [List.length_append, List.map_append]; exact hown
        go_wp2
        go_roundw
        case rel => exact ⟨k + 1, k + 1, D ++ [x], [], by omega, by go_num, by go_num, HNX, r1, hb1⟩
        case measure => simp [intOf]; omega
      · have hc10 : ¬ ((c.toNat : Int) = 10) := fun h => h10 (UInt8.toNat_inj.1 (by simp; omega))
        have hsp : spl nl (l.take (k + 1)) = D ++ [x ++ [c]] := by rw [hts]; exact spl_add (by intro d hd; obtain rfl := List.mem_singleton.1 hd; simpa [nl] using h10) _ D x hD1
        obtain ⟨h1, h2⟩ := spl_cut _ _ _ hsp
        obtain ⟨h3, h4⟩ := spl_cut _ _ _ hD1
        have hr : reach 0 D = f0 := by simp at h3; omega
        have HNX : Hid (spl nl (l.take (k + 1)) = D ++ [x ++ [c]] ∧ f0 + (x ++ [c]).length = k + 1 ∧ (l.take (k + 1)).drop f0 = x ++ [c] ∧ D.length ≤ k + 1) := Lib.hid ⟨hsp, by simp; omega, by rw [← hr]; exact h2, by omega⟩
        clear hsp h1 h2 h3 h4 hr hts hD1 hD3 hnl hkl HD h10
        generalize c.toNat = cn at *
        go_wp2
        go_roundw
        case rel => exact ⟨k + 1, f0, D, x ++ [c], by omega, by go_num, rfl, HNX, hu, BO⟩
        case measure => simp [intOf]; omega
    · obtain rfl : k = n := by omega
      have htk : l.take k = l := List.take_of_length_le (by omega)
      rw [htk] at hD1 hD3
      have hsf := fun w => slf18 (P := Tryd.prog) Tryd.underlying9 HS.out f0 (by omega) w
      rw [hD3] at hsf
      have HE : Hid (spl nl l = D ++ [x]) := Lib.hid hD1
      obtain ⟨p1, hp1⟩ : ∃ p : BW wr, p.w = wr := ⟨BW.start wr, rfl⟩
      have B1 := BO
      rw [← hp1]
      clear hp1 htk hD1 hD3 hnl HD
      go_wp2_with (at_builtin; refine wpList_append_at rfl _ _ 38 rfl w.heap.size 9 i0 (.string ⟨#[]⟩) 1 16 Tryd.underlying38 hi0 hz0 hz1 hz2 rfl (by decide) _ _ _ rfl (World.ownsRow.alloc (owns_below hu (BW.h _)) _) ⟨_, 0, none⟩ 1 1 [sval x] rfl rfl ?g1 ?g2 ?g3 ?g4 ?g5 ?_)
      case g1 => exact cell_one_new _ _ _
      case g2 => first | (intro u hu; simp only [List.mem_cons, List.not_mem_nil, or_false] at hu; rw [hu]; rfl) | rfl | (simp [Value.oneCell', sval])
      case g3 => unfold maxLen; omega
      case g4 => omega
      case g5 => have := (bw_below B1 p1).size; simp; omega
      intro v' w1 hown hgrow hat
      have hb1 : Below w.heap.size w w1 := ((bw_below B1 p1).alloc (bw_below B1 p1).size _).grown hgrow (by have := (bw_below B1 p1).size; simp; omega) (fun j ej => by have := (World.ownsRow.lt hu _ ej).1; omega)
      have r1 : StrRow w1 w.heap.size v' (spl nl l) := by rw [HE.out]; unfold StrRow; rw [List.length_append, List.map_append]; exact hown
      go_wp2
      go_ret
      exact ⟨_, rfl, r1, hb1⟩

end Go.Proofs.YtlhamgcmkodjeaaDoor
