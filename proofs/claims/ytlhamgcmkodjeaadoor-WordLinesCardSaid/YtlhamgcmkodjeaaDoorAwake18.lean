/- The statements' last line of layer 18: the chapter's example. -/
import Derived.Test.YtlhamgcmkodjeaaDoorLine18
import Derived.Test.YtlhamgcmkodjeaaDoorNumb18
import Derived.Test.YtlhamgcmkodjeaaDoorRowz18
namespace Go.Proofs.YtlhamgcmkodjeaaDoor
open Go.RowKit Go.Shelf Go.Proofs.Sky
set_option linter.unusedVariables false
set_option linter.unusedSimpArgs false

theorem rows_example : rowsOf [97, 32, 32, 98, 35, 99, 32, 35, 100] = [⟨1, 7, [(0, [97]), (3, [98, 35, 99])]⟩] := rfl

theorem number_none : numOf [45, 48] = (0, false) := numOf_else (v := 0) (by rfl) (by
  rw [show (0 : Int) = ((0 : Nat) : Int) from rfl, Lib.itoa_nonneg, decDigits_small (by omega)]; decide)

theorem number_far : numOf [50, 49, 52, 55, 52, 56, 51, 54, 52, 57] = (0, false) := numOf_far (v := 2147483649) (by rfl) (by omega)

theorem dd18 (u d r : Nat) (h : u = r * 10 + d) (hd : d < 10) (hr : 1 ≤ r) : Lib.decDigits u = Lib.decDigits r ++ [UInt8.ofNat (48 + d)] := by
  rw [decDigits_big (by omega), show u / 10 = r by omega, show u % 10 = d by omega]

theorem number_least : numOf [45, 50, 49, 52, 55, 52, 56, 51, 54, 52, 56] = (-2147483648, true) := numOf_of (by omega) (by
  rw [show (-2147483648 : Int) = -((2147483648 : Nat) : Int) from rfl, Lib.itoa_neg _ (by omega), dd18 2147483648 8 214748364 rfl (by omega) (by omega), dd18 214748364 4 21474836 rfl (by omega) (by omega), dd18 21474836 6 2147483 rfl (by omega) (by omega), dd18 2147483 3 214748 rfl (by omega) (by omega), dd18 214748 8 21474 rfl (by omega) (by omega), dd18 21474 4 2147 rfl (by omega) (by omega), dd18 2147 7 214 rfl (by omega) (by omega), dd18 214 4 21 rfl (by omega) (by omega), dd18 21 1 2 rfl (by omega) (by omega), decDigits_small (by omega)]
  rfl)

/-- A text of one row, of two words, as one reads it. -/
theorem rows_two {w : World} {v : Value} {r : Rw} {x y : Nat × List UInt8} (h : RowsAt18 w v [r]) (hr : r.ws = [x, y]) :
    ∃ b off c b2 off2 c2, v = .slice (some ⟨b, off, none⟩) 1 c ∧ b < w.heap.size ∧ b2 < w.heap.size ∧ w.cell? ⟨b, off, none⟩ = some (.int .i64 (r.line : Int)) ∧ w.cell? ⟨b, off + 1, none⟩ = some (.int .i64 (r.fin : Int)) ∧ w.cell? ⟨b, off + 2, none⟩ = some (.slice (some ⟨b2, off2, none⟩) 2 c2) ∧
      w.cell? ⟨b2, off2 + 3, none⟩ = some (sval y.2) ∧ w.cell? ⟨b2, off2 + 4, none⟩ = some (.int .i64 (r.line : Int)) ∧ w.cell? ⟨b2, off2 + 5, none⟩ = some (.int .i64 ((y.1 : Int) + 1)) := by
  obtain ⟨L, hL, h1, h2⟩ := h
  obtain ⟨p, rfl⟩ : ∃ p, L = [p] := by
    cases L with
    | nil => cases hL
    | cons p L =>
      cases L with
      | nil => exact ⟨p, rfl⟩
      | cons q L => simp at hL
  have hp : p.1 = r := by simpa using hL
  obtain ⟨a, c, rfl, _, hS⟩ := h1
  obtain ⟨b, off, rfl, hb, hc⟩ := hS.resolve_left (by simp)
  have c0 := hc 0 (by simp) 0 (by omega)
  have c1 := hc 0 (by simp) 1 (by omega)
  have c2 := hc 0 (by simp) 2 (by omega)
  obtain ⟨a2, k2, e2, _, hT⟩ := h2 p (by simp)
  rw [hp, hr] at hT e2
  obtain ⟨b2, off2, rfl, hb2, hc2⟩ := hT.resolve_left (by simp)
  have d0 := hc2 1 (by simp) 0 (by omega)
  have d1 := hc2 1 (by simp) 1 (by omega)
  have d2 := hc2 1 (by simp) 2 (by omega)
  refine ⟨b, off, c, b2, off2, k2, rfl, hb, hb2, ?_, ?_, ?_, ?_, ?_, ?_⟩
  · simpa [rcells, hp] using c0
  · simpa [rcells, hp] using c1
  · have := c2; simp [rcells, e2] at this; simpa using this
  · simpa [tcells] using d0
  · simpa [tcells] using d1
  · simpa [tcells] using d2

set_option maxRecDepth 100000 in
set_option maxHeartbeats 8000000 in
theorem awake18 (w : World) (hL : Laid18 w) :
    Calls Tryd.prog 6 #[] w fun e w' => e = .returned (.bool true) ∧ Below w.heap.size w w' := by
  have KR := Lib.hid (fun w => word_Rows [97, 32, 32, 98, 35, 99, 32, 35, 100] (by simp) w)
  have K1 := Lib.hid (fun w hL => word_Number [45, 48] (by simp) w hL)
  have K2 := Lib.hid (fun w hL => word_Number [50, 49, 52, 55, 52, 56, 51, 54, 52, 57] (by simp) w hL)
  have K3 := Lib.hid (fun w hL => word_Number [45, 50, 49, 52, 55, 52, 56, 51, 54, 52, 56] (by simp) w hL)
  rw [rows_example] at KR
  rw [number_none] at K1
  rw [number_far] at K2
  rw [number_least] at K3
  have HL := Lib.hid hL
  clear hL
  go_enter Tryd.func6, Tryd.ntmps6
  go_upto_region 5 with (first
    | (go_at_call 12; (with_reducible refine (KR.out _).mono ?_); rintro e w1 ⟨u, rfl, hr, hb1⟩; obtain ⟨b, off, c, b2, off2, c2, rfl, ib, ib2, x0, x1, x2, y0, y1, y2⟩ := rows_two hr rfl)
    | (go_at_call 7; (with_reducible refine (K1.out _ (HL.out.below hb1)).mono ?_); rintro e w2 ⟨rfl, hb2⟩)
    | (go_at_call 7; (with_reducible refine (K2.out _ ((HL.out.below hb1).below hb2)).mono ?_); rintro e w3 ⟨rfl, hb3⟩)
    | (go_at_call 7; (with_reducible refine (K3.out _ (((HL.out.below hb1).below hb2).below hb3)).mono ?_); rintro e w4 ⟨rfl, hb4⟩))
  have hb14 : Below w1.heap.size w1 w4 := hb2.trans ((hb3.mono hb2.size).trans (hb4.mono (Nat.le_trans hb2.size hb3.size)))
  have B4 : Below w.heap.size w w4 := hb1.trans (hb14.mono hb1.size)
  have z0 := (hb14.cell (p := ⟨b, off, none⟩) ib).trans x0
  have z1 := (hb14.cell (p := ⟨b, off + 1, none⟩) ib).trans x1
  have z2 := (hb14.cell (p := ⟨b, off + 2, none⟩) ib).trans x2
  have v0 := (hb14.cell (p := ⟨b2, off2 + 3, none⟩) ib2).trans y0
  have v1 := (hb14.cell (p := ⟨b2, off2 + 4, none⟩) ib2).trans y1
  have v2 := (hb14.cell (p := ⟨b2, off2 + 5, none⟩) ib2).trans y2
  have KLn : Calls Tryd.prog 19 #[.slice (some ⟨w4.heap.size, 0, none⟩) 2 2] (w4.alloc (.cells #[.string ⟨#[97]⟩, .string ⟨#[98]⟩] 9)) fun e w' => e = .returned (.string ⟨#[97, 32, 98, 10]⟩) ∧ Below (w4.alloc (.cells #[.string ⟨#[97]⟩, .string ⟨#[98]⟩] 9)).heap.size (w4.alloc (.cells #[.string ⟨#[97]⟩, .string ⟨#[98]⟩] 9)) w' :=
    word_Line w4.heap.size 0 2 [[97], [98]] _ (fun j x hx => by
      have := cells_new w4 #[.string ⟨#[97]⟩, .string ⟨#[98]⟩] 9 j (sval x) (by
        match j, hx with
        | 0, hx => cases hx; rfl
        | 1, hx => cases hx; rfl
        | j + 2, hx => simp at hx)
      rw [Lib.add_plain] at this
      exact this) (by simp) (by simp) (by simp) (by decide)
  have HLn := Lib.hid KLn
  clear KLn x0 x1 x2 y0 y1 y2 hb1 hb2 hb3 hb4 hb14 hr KR K1 K2 K3 HL ib ib2
  dsimp only [sval] at v0
  go_wp2_with (go_at_call 19; (with_reducible refine HLn.out.mono ?_); rintro e w5 ⟨rfl, hb5⟩)
  go_ret
  exact ⟨rfl, (B4.alloc B4.size _).trans (hb5.mono (by have := B4.size; simp; omega))⟩

end Go.Proofs.YtlhamgcmkodjeaaDoor
