/- Contracts of package word: lines. -/
import Derived.Test.YtlhamgcmkodjeaaDoorConv18
import Derived.Test.YtlhamgcmkodjeaaDoorMem18
namespace Go.Proofs.YtlhamgcmkodjeaaDoor
open Go.RowKit Go.Shelf Go.Sort Go.Proofs.Sky
set_option linter.unusedVariables false
set_option linter.unusedSimpArgs false

/-- Words, separated by blanks. -/
def lineOf (xs : List (List UInt8)) : List UInt8 := Lib.join xs [32] ++ [10]

theorem word_Line (b o c : Nat) (xs : List (List UInt8)) (w : World) (hcells : ∀ (j : Nat) x, xs[j]? = some x → w.cell? ⟨b, o + j, none⟩ = some (sval x)) (hb : b < w.heap.size) (hn : xs.length ≤ 1000) (hcap : xs.length ≤ c) (hlen : (Lib.join xs [32]).length ≤ 1000000) :
    Calls Tryd.prog 19 #[.slice (some ⟨b, o, none⟩) xs.length c] w fun e w' => e = .returned (.string ⟨(lineOf xs).toArray⟩) ∧ Below w.heap.size w w' := by
  have hm : (xs.map (fun x : List UInt8 => (⟨x.toArray⟩ : ByteArray))).map (·.data.toList) = xs := by
    rw [List.map_map]
    have : ((fun x : ByteArray => x.data.toList) ∘ fun x : List UInt8 => (⟨x.toArray⟩ : ByteArray)) = id := by funext x; simp
    rw [this, List.map_id]
  have K := Tryd.strings_Join b o c (xs.map (fun x : List UInt8 => (⟨x.toArray⟩ : ByteArray))) ⟨#[32]⟩ w (fun j x hx => by
    rw [List.getElem?_map] at hx
    obtain ⟨y, hy, rfl⟩ := Option.map_eq_some_iff.1 hx
    exact hcells j y hy) hb (by simp; omega) (by simpa using hcap) (by rw [hm]; simp; omega)
  rw [hm, List.length_map] at K
  have K2 : Calls Tryd.prog 30 #[.slice (some ⟨b, o, none⟩) xs.length c, .string ⟨#[32]⟩] w fun e w' => e = .returned (.string ⟨(Lib.join xs [32]).toArray⟩) ∧ Below w.heap.size w w' := K
  have hplus := fun w => plus18 (P := Tryd.prog) (Lib.join xs [32]) [10] (by simp; omega) w
  have HK := Lib.hid K2
  clear K K2 hm hcells
  unfold lineOf
  generalize xs.length = n at *
  generalize Lib.join xs [32] = J at *
  go_enter Tryd.func19, Tryd.ntmps19
  go_wp2_with (go_at_call 30; (with_reducible refine HK.out.mono ?_); rintro e w' ⟨rfl, hb⟩)
  go_ret
  exact ⟨rfl, hb⟩

end Go.Proofs.YtlhamgcmkodjeaaDoor
