/- Plain mathematics of layer 9: colors and weights. Imports nothing of the translation. -/
import Derived.Test.YtppfemaolaigoaaMath07
namespace Go.Proofs.Sky
open Go.RowKit
set_option linter.unusedVariables false

def rin (n : Int) (c : T3) : Bool := decide (0 ≤ c.1 ∧ c.1 ≤ n ∧ 0 ≤ c.2.1 ∧ c.2.1 ≤ n ∧ 0 ≤ c.2.2 ∧ c.2.2 ≤ n)
theorem rin_iff {n : Int} {c : T3} : rin n c = true ↔ 0 ≤ c.1 ∧ c.1 ≤ n ∧ 0 ≤ c.2.1 ∧ c.2.1 ≤ n ∧ 0 ≤ c.2.2 ∧ c.2.2 ≤ n := by unfold rin; exact decide_eq_true_iff
def rcol (c : T3) : Bool := rin 65536 c
def rwei (c : T3) : Bool := rin 1099511627776 c
def hmix (w c : T3) : T3 := if rwei w = true ∧ rcol c = true then (w.1 * c.1 / 65536, w.2.1 * c.2.1 / 65536, w.2.2 * c.2.2 / 65536) else (0, 0, 0)
def hadd (a b : T3) : T3 := (sat (a.1 + b.1), sat (a.2.1 + b.2.1), sat (a.2.2 + b.2.2))
def hfold (V : Nat → T3) : Nat → T3
  | 0 => (0, 0, 0)
  | k + 1 => hadd (hfold V k) (V k)
def m40 (x : Int) : Int := if x ≤ 1099511627776 then x else 1099511627776
def hpart (w : T3) (n d : Int) : T3 := if rwei w = true ∧ 1 ≤ d ∧ 0 ≤ n then (m40 (fat w.1 n d), m40 (fat w.2.1 n d), m40 (fat w.2.2 n d)) else (0, 0, 0)
def mx3 (a b c : Int) : Int := if b ≤ a then (if c ≤ a then a else c) else (if c ≤ b then b else c)
def hmost (w : T3) : Int := mx3 w.1 w.2.1 w.2.2
def hgrey (w : T3) : Int := if rwei w = true then (w.1 + 2 * w.2.1 + w.2.2) / 4 else 0
def hblack (w : T3) : Bool := decide (w.1 = 0 ∧ w.2.1 = 0 ∧ w.2.2 = 0)
/-- No channel is greater. -/
def hle (a b : T3) : Prop := a.1 ≤ b.1 ∧ a.2.1 ≤ b.2.1 ∧ a.2.2 ≤ b.2.2

theorem mul_small {a c : Int} (h0 : 0 ≤ a) (h1 : a ≤ 1099511627776) (k0 : 0 ≤ c) (k1 : c ≤ 65536) : 0 ≤ a * c ∧ a * c ≤ 72057594037927936 := by
  refine ⟨Int.mul_nonneg h0 k0, ?_⟩
  have := Int.mul_le_mul h1 k1 k0 (by omega)
  omega
theorem mix_le {a c : Int} (h0 : 0 ≤ a) (k0 : 0 ≤ c) (k1 : c ≤ 65536) : 0 ≤ a * c / 65536 ∧ a * c / 65536 ≤ a := by
  have := Int.mul_le_mul_of_nonneg_left k1 h0
  have := Int.mul_nonneg h0 k0
  omega
theorem mix_mono {a b d : Int} (h : a ≤ b) (d0 : 0 ≤ d) : a * d / 65536 ≤ b * d / 65536 := by
  have := Int.mul_le_mul_of_nonneg_right h d0
  omega
theorem hmix_le {w c : T3} (hw : rwei w = true) (hc : rcol c = true) : hle (hmix w c) w ∧ rwei (hmix w c) = true := by
  unfold hmix
  rw [if_pos ⟨hw, hc⟩]
  unfold rwei rcol at *
  rw [rin_iff] at hw hc ⊢
  obtain ⟨a1, a2, a3, a4, a5, a6⟩ := hw
  obtain ⟨c1, c2, c3, c4, c5, c6⟩ := hc
  have m1 := mix_le a1 c1 c2
  have m2 := mix_le a3 c3 c4
  have m3 := mix_le a5 c5 c6
  unfold hle
  dsimp only
  omega
theorem hmix_all {w : T3} (hw : rwei w = true) : hmix w (65536, 65536, 65536) = w := by
  unfold hmix
  rw [if_pos ⟨hw, by decide⟩]
  obtain ⟨a, b, c⟩ := w
  dsimp only
  rw [Int.mul_ediv_cancel _ (by omega), Int.mul_ediv_cancel _ (by omega), Int.mul_ediv_cancel _ (by omega)]
theorem hmix_none {w : T3} (hw : rwei w = true) : hmix w (0, 0, 0) = (0, 0, 0) := by
  unfold hmix
  rw [if_pos ⟨hw, by decide⟩]
  simp
theorem hmix_mono {m w d : T3} (hm : rwei m = true) (hw : rwei w = true) (hd : rcol d = true) (h : hle m w) : hle (hmix m d) (hmix w d) := by
  unfold hmix
  rw [if_pos ⟨hm, hd⟩, if_pos ⟨hw, hd⟩]
  unfold rcol at hd
  rw [rin_iff] at hd
  exact ⟨mix_mono h.1 hd.1, mix_mono h.2.1 hd.2.2.1, mix_mono h.2.2 hd.2.2.2.2.1⟩
theorem part_le {a n d : Int} (h0 : 0 ≤ a) (h1 : a ≤ 1099511627776) (hd : 1 ≤ d) (n0 : 0 ≤ n) (n1 : n ≤ d) : m40 (fat a n d) ≤ a := by
  have e1 : a * n ≤ a * d := Int.mul_le_mul_of_nonneg_left n1 h0
  have e2 : 0 ≤ a * n := Int.mul_nonneg h0 n0
  have e3 : a * n / d ≤ a := by
    have := Int.ediv_le_ediv (show 0 < d by omega) e1
    rwa [Int.mul_ediv_cancel _ (by omega)] at this
  have e4 : 0 ≤ a * n / d := Int.ediv_nonneg e2 (by omega)
  have e5 : fat a n d = a * n / d := by unfold fat sat; rw [if_neg (by omega), if_neg (by omega), if_neg (by omega)]
  unfold m40
  rw [e5, if_pos (by omega)]
  exact e3
theorem part_one {a : Int} (h0 : 0 ≤ a) (h1 : a ≤ 1099511627776) : m40 (fat a 1 1) = a := by
  have e5 : fat a 1 1 = a := by unfold fat sat; rw [Int.mul_one, Int.ediv_one, if_neg (by omega), if_neg (by omega), if_neg (by omega)]
  unfold m40
  rw [e5, if_pos h1]
theorem hpart_le {w : T3} {n d : Int} (hw : rwei w = true) (hd : 1 ≤ d) (n0 : 0 ≤ n) (n1 : n ≤ d) : hle (hpart w n d) w := by
  unfold hpart
  rw [if_pos ⟨hw, hd, n0⟩]
  unfold rwei at hw
  rw [rin_iff] at hw
  exact ⟨part_le hw.1 hw.2.1 hd n0 n1, part_le hw.2.2.1 hw.2.2.2.1 hd n0 n1, part_le hw.2.2.2.2.1 hw.2.2.2.2.2 hd n0 n1⟩
theorem hpart_one {w : T3} (hw : rwei w = true) : hpart w 1 1 = w := by
  unfold hpart
  rw [if_pos ⟨hw, by omega, by omega⟩]
  unfold rwei at hw
  rw [rin_iff] at hw
  rw [part_one hw.1 hw.2.1, part_one hw.2.2.1 hw.2.2.2.1, part_one hw.2.2.2.2.1 hw.2.2.2.2.2]
theorem hgrey_le {w : T3} (hw : rwei w = true) : 0 ≤ hgrey w ∧ hgrey w ≤ hmost w := by
  unfold hgrey hmost mx3
  rw [if_pos hw]
  unfold rwei at hw
  rw [rin_iff] at hw
  omega

end Go.Proofs.Sky
