/- The statements' own helper, layer 19: whole. -/
import Derived.Test.YtneacfhoinaeeaaMc28
import Derived.Test.YtneacfhoinaeeaaMc15
import Derived.Test.YtneacfhoinaeeaaMc37


namespace Go.Proofs.Ytneacfhoinaeeaa
section

open Go.RowKit Go.Proofs.Sky

set_option linter.unusedVariables false

set_option linter.unusedSimpArgs false

def mGood (p : Pr) : Prop := pRight p = true ∧ p.k = 1 ∧ p.m = 3

set_option maxRecDepth 100000 in
set_option maxHeartbeats 8000000 in
theorem law19_whole5 (a : Option Addr) (cap : Nat) (n : Int) (w : World) :
    Calls Try.prog 17 #[.slice a 0 cap, .int .i64 5, .int .i64 n] w fun en w' => en = .returned (.bool true) ∧ Below w.heap.size w w' := by
  go_enter Try.func17, Try.ntmps17
  go_wp2
  go_ret
  exact ⟨rfl, Below.refl _ _⟩

set_option maxRecDepth 100000 in
set_option maxHeartbeats 8000000 in
theorem law19_whole7 (a : Option Addr) (cap : Nat) (n : Int) (w : World) :
    Calls Try.prog 17 #[.slice a 0 cap, .int .i64 7, .int .i64 n] w fun en w' => en = .returned (.bool true) ∧ Below w.heap.size w w' := by
  go_enter Try.func17, Try.ntmps17
  go_wp2
  go_ret
  exact ⟨rfl, Below.refl _ _⟩

set_option maxRecDepth 100000 in
set_option maxHeartbeats 8000000 in
theorem law19_whole (v : Value) (l : List Pr) (n : Nat) (w : World) (hs : Sll w v 12 pcells l) (hn : n = l.length) (hl : n ≤ 1000000) (hg : ∀ p ∈ l, mGood p) :
    Calls Try.prog 17 #[v, .int .i64 0, .int .i64 n] w fun en w' => en = .returned (.bool true) ∧ Below w.heap.size w w' := by
  obtain ⟨a, cap, rfl, hmx, hS⟩ := hs
  have HNN := Lib.hid hn
  rw [← hn]
  have HS := Lib.hid hS
  have HG := Lib.hid hg
  clear hS hn hmx hg
  go_enter Try.func17, Try.ntmps17
  go_wp2
  go_loopw [7] (fun i wr => ∃ (k : Nat) (q : BW w), k ≤ n ∧ i = .int .i64 k ∧ wr = q.w) (fun i _ => n - (intOf i).toNat)
  case atStart => exact ⟨0, BW.start w, by omega, rfl, rfl⟩
  case round =>
    obtain ⟨k, q0, hk, rfl, rfl⟩ := hrel
    by_cases hlt : k < n
    · have hkl : k < l.length := by rw [← HNN.out]; exact hlt
      obtain ⟨gb, off, rfl, hb, hcell⟩ := HS.out.resolve_left (by omega)
      have hx := hcell k hkl
      have hgd := HG.out _ (List.getElem_mem hkl)
      have x0 : w.cell? ⟨gb, off + k * 12, none⟩ = some (.int .i64 (l[k]).k) := hx 0 (by omega)
      have x1 : w.cell? ⟨gb, off + k * 12 + 1, none⟩ = some (.int .i64 (l[k]).a.1) := hx 1 (by omega)
      have x2 : w.cell? ⟨gb, off + k * 12 + 2, none⟩ = some (.int .i64 (l[k]).a.2.1) := hx 2 (by omega)
      have x3 : w.cell? ⟨gb, off + k * 12 + 3, none⟩ = some (.int .i64 (l[k]).a.2.2) := hx 3 (by omega)
      have x4 : w.cell? ⟨gb, off + k * 12 + 4, none⟩ = some (.int .i64 (l[k]).b.1) := hx 4 (by omega)
      have x5 : w.cell? ⟨gb, off + k * 12 + 5, none⟩ = some (.int .i64 (l[k]).b.2.1) := hx 5 (by omega)
      have x6 : w.cell? ⟨gb, off + k * 12 + 6, none⟩ = some (.int .i64 (l[k]).b.2.2) := hx 6 (by omega)
      have x7 : w.cell? ⟨gb, off + k * 12 + 7, none⟩ = some (.int .i64 (l[k]).c.1) := hx 7 (by omega)
      have x8 : w.cell? ⟨gb, off + k * 12 + 8, none⟩ = some (.int .i64 (l[k]).c.2.1) := hx 8 (by omega)
      have x9 : w.cell? ⟨gb, off + k * 12 + 9, none⟩ = some (.int .i64 (l[k]).c.2.2) := hx 9 (by omega)
      have x10 : w.cell? ⟨gb, off + k * 12 + 10, none⟩ = some (.int .i64 (l[k]).r) := hx 10 (by omega)
      have x11 : w.cell? ⟨gb, off + k * 12 + 11, none⟩ = some (.int .i64 (l[k]).m) := hx 11 (by omega)
      clear hx hcell
      generalize l[k] = pk at *
      obtain ⟨kk, ⟨a1, a2, a3⟩, ⟨b1, b2, b3⟩, ⟨c1, c2, c3⟩, r, m⟩ := pk
      obtain ⟨hgr, hgk, hgm⟩ := hgd
      dsimp only at x0 x1 x2 x3 x4 x5 x6 x7 x8 x9 x10 x11 hgk hgm
      subst hgk hgm
      have KR : Hid (∀ X, Calls Try.prog 34 #[.agg #[.int .i64 1, .int .i64 a1, .int .i64 a2, .int .i64 a3, .int .i64 b1, .int .i64 b2, .int .i64 b3, .int .i64 c1, .int .i64 c2, .int .i64 c3, .int .i64 r, .int .i64 3]] X fun en w' => en = .returned (.bool true) ∧ Below X.heap.size X w') := Lib.hid (fun X => by
        have h := ref13_Right 1 a1 a2 a3 b1 b2 b3 c1 c2 c3 r 3 X
        rw [hgr] at h
        exact h)
      clear hgr
      have c_x0 : ∀ p : BW w, p.w.cell? ⟨gb, off + k * 12, none⟩ = some (.int .i64 1) := bw_cell x0
      have c_x1 : ∀ p : BW w, p.w.cell? ⟨gb, off + k * 12 + 1, none⟩ = some (.int .i64 a1) := bw_cell x1
      have c_x2 : ∀ p : BW w, p.w.cell? ⟨gb, off + k * 12 + 2, none⟩ = some (.int .i64 a2) := bw_cell x2
      have c_x3 : ∀ p : BW w, p.w.cell? ⟨gb, off + k * 12 + 3, none⟩ = some (.int .i64 a3) := bw_cell x3
      have c_x4 : ∀ p : BW w, p.w.cell? ⟨gb, off + k * 12 + 4, none⟩ = some (.int .i64 b1) := bw_cell x4
      have c_x5 : ∀ p : BW w, p.w.cell? ⟨gb, off + k * 12 + 5, none⟩ = some (.int .i64 b2) := bw_cell x5
      have c_x6 : ∀ p : BW w, p.w.cell? ⟨gb, off + k * 12 + 6, none⟩ = some (.int .i64 b3) := bw_cell x6
      have c_x7 : ∀ p : BW w, p.w.cell? ⟨gb, off + k * 12 + 7, none⟩ = some (.int .i64 c1) := bw_cell x7
      have c_x8 : ∀ p : BW w, p.w.cell? ⟨gb, off + k * 12 + 8, none⟩ = some (.int .i64 c2) := bw_cell x8
      have c_x9 : ∀ p : BW w, p.w.cell? ⟨gb, off + k * 12 + 9, none⟩ = some (.int .i64 c3) := bw_cell x9
      have c_x10 : ∀ p : BW w, p.w.cell? ⟨gb, off + k * 12 + 10, none⟩ = some (.int .i64 r) := bw_cell x10
      have c_x11 : ∀ p : BW w, p.w.cell? ⟨gb, off + k * 12 + 11, none⟩ = some (.int .i64 3) := bw_cell x11
      clear x0 x1 x2 x3 x4 x5 x6 x7 x8 x9 x10 x11
      go_wp2_with (go_at_call 34; (with_reducible refine (bw_call KR.out _).mono ?_); rintro e w' ⟨rfl, q, rfl⟩)
      go_roundw
      case rel => exact ⟨k + 1, q, by omega, by go_num, rfl⟩
      case measure => simp [intOf]; omega
    · obtain rfl : k = n := by omega
      go_wp2
      go_ret
      exact ⟨rfl, q0.h⟩

end
end Go.Proofs.Ytneacfhoinaeeaa
