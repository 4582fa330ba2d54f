/- Contracts of package dice. -/
import Derived.Test.YtfofnkchieajpaaRef04
import Derived.Test.YtfofnkchieajpaaBw
import Derived.Test.YtfofnkchieajpaaMem02
import Derived.StillTailTactics
import Derived.Deep.DeepCutAuto
namespace Go.Proofs.Ytfofnkchieajpaa
open Go.RowKit Go.Proofs.Sky
set_option linter.unusedVariables false

theorem shx_go (k x : Nat) (d : Int) (hd : d = 2 ^ k) (hx : x < 18446744073709551616) : bits .xor .u64 (x : Int) ((x : Int) / d) = (shx k x : Nat) := by
  have p1 : ((2 : Int) ^ k) = ((2 ^ k : Nat) : Int) := by rw [Int.natCast_pow]; rfl
  unfold shx
  rw [hd, p1, ← Int.natCast_ediv, u64_xor_nat x (x / 2 ^ k) hx (Nat.lt_of_le_of_lt (Nat.div_le_self _ _) hx), Nat.shiftRight_eq_div_pow]

theorem dice_Mix_same (x : Nat) (w : World) (hx : x < 18446744073709551616) :
    Calls Try.prog 6 #[.int .u64 x] w fun e w' => e = .returned (.int .u64 (mixN x : Nat)) ∧ w = w' := by
  unfold mixN
  have e1 := shx_go 30 x 1073741824 rfl hx
  have f1 : IntKind.u64.wrap ((shx 30 x : Int) * 13787848793156543929) = ((shx 30 x * 13787848793156543929 % 18446744073709551616 : Nat) : Int) := by rw [u64w]; omega
  obtain ⟨a, ha⟩ : ∃ a, a = shx 30 x * 13787848793156543929 % 18446744073709551616 := ⟨_, rfl⟩
  rw [← ha] at f1 ⊢
  have e2 := shx_go 27 a 134217728 rfl (by omega)
  have f2 : IntKind.u64.wrap ((shx 27 a : Int) * 10723151780598845931) = ((shx 27 a * 10723151780598845931 % 18446744073709551616 : Nat) : Int) := by rw [u64w]; omega
  obtain ⟨b, hb⟩ : ∃ b, b = shx 27 a * 10723151780598845931 % 18446744073709551616 := ⟨_, rfl⟩
  rw [← hb] at f2 ⊢
  have e3 := shx_go 31 b 2147483648 rfl (by omega)
  clear ha hb hx
  generalize shx 30 x = c1 at *
  generalize shx 27 a = c2 at *
  generalize shx 31 b = c3 at *
  go_enter Try.func6, Try.ntmps6
  go_wp2
  go_ret
  exact ⟨rfl, rfl⟩

theorem dice_Mix (x : Nat) (w : World) (hx : x < 18446744073709551616) :
    Calls Try.prog 6 #[.int .u64 x] w fun e w' => e = .returned (.int .u64 (mixN x : Nat)) ∧ Below w.heap.size w w' :=
  below_of_same (fun w => dice_Mix_same x w hx) w

theorem dice_Draw_same (s : Nat) (p q : Int) (w : World) (hs : s < 18446744073709551616) (hp : I64 p) (hq : I64 q) :
    Calls Try.prog 8 #[.int .u64 s, .int .i64 p, .int .i64 q] w fun e w' => e = .returned (.int .u64 (drawN s p q : Nat)) ∧ w = w' := by
  unfold drawN
  have M1 := Lib.hid (fun w => dice_Mix_same s w hs)
  have m1 := mixN_lt s
  have e1 := u64of_wrap p
  have e2 := u64of_wrap q
  have l1 := u64of_lt p
  have l2 := u64of_lt q
  have s1 : IntKind.u64.wrap ((mixN s : Int) + (u64of p : Int)) = (((mixN s + u64of p) % 18446744073709551616 : Nat) : Int) := by rw [u64w]; omega
  obtain ⟨a, ha⟩ : ∃ a, a = (mixN s + u64of p) % 18446744073709551616 := ⟨_, rfl⟩
  rw [← ha] at s1 ⊢
  have M2 := Lib.hid (fun w => dice_Mix_same a w (by omega))
  have s2 : IntKind.u64.wrap ((mixN a : Int) + (u64of q : Int)) = (((mixN a + u64of q) % 18446744073709551616 : Nat) : Int) := by rw [u64w]; omega
  obtain ⟨b, hb⟩ : ∃ b, b = (mixN a + u64of q) % 18446744073709551616 := ⟨_, rfl⟩
  rw [← hb] at s2 ⊢
  have M3 := Lib.hid (fun w => dice_Mix_same b w (by omega))
  clear ha hb m1 l1 l2 hs
  generalize mixN s = c1 at *
  generalize mixN a = c2 at *
  generalize mixN b = c3 at *
  generalize u64of p = p' at *
  generalize u64of q = q' at *
  go_enter Try.func8, Try.ntmps8
  go_wp2_with (first
    | (go_at_call 6; (with_reducible refine (M1.out _).mono ?_); rintro e w' ⟨rfl, rfl⟩)
    | (go_at_call 6; (with_reducible refine (M2.out _).mono ?_); rintro e w' ⟨rfl, rfl⟩)
    | (go_at_call 6; (with_reducible refine (M3.out _).mono ?_); rintro e w' ⟨rfl, rfl⟩))
  go_ret
  exact ⟨rfl, rfl⟩

theorem dice_Draw (s : Nat) (p q : Int) (w : World) (hs : s < 18446744073709551616) (hp : I64 p) (hq : I64 q) :
    Calls Try.prog 8 #[.int .u64 s, .int .i64 p, .int .i64 q] w fun e w' => e = .returned (.int .u64 (drawN s p q : Nat)) ∧ Below w.heap.size w w' :=
  below_of_same (fun w => dice_Draw_same s p q w hs hp hq) w

theorem dice_Below_same (x : Nat) (n : Int) (w : World) (hx : x < 18446744073709551616) (hn : I64 n) :
    Calls Try.prog 10 #[.int .u64 x, .int .i64 n] w fun e w' => e = .returned (.int .i64 (belowN x n)) ∧ w = w' := by
  by_cases h1 : n < 1
  · have e : belowN x n = 0 := by unfold belowN; rw [if_pos (.inl h1)]
    rw [e]
    clear e
    go_enter Try.func10, Try.ntmps10
    go_wp2
    go_ret
    exact ⟨rfl, rfl⟩
  · by_cases h2 : 2147483648 < n
    · have e : belowN x n = 0 := by unfold belowN; rw [if_pos (.inr h2)]
      rw [e]
      have h1' : 1 ≤ n := by omega
      clear e h1
      go_enter Try.func10, Try.ntmps10
      go_wp2
      go_ret
      exact ⟨rfl, rfl⟩
    · obtain ⟨m, rfl⟩ := Int.eq_ofNat_of_zero_le (show 0 ≤ n by omega)
      have r := belowN_range (n := (m : Int)) hx
      have e : belowN x m = ((x * m / 18446744073709551616 : Nat) : Int) := by unfold belowN; rw [if_neg (by omega), Int.toNat_natCast]
      have M := Lib.hid (fun w => Try.bits_Mul64 x m hx (by omega) w)
      rw [e] at r ⊢
      generalize x * m / 18446744073709551616 = h at *
      generalize x * m % 18446744073709551616 = l at *
      have e1 : IntKind.u64.wrap (m : Int) = (m : Int) := by rw [u64w]; omega
      have e2 : IntKind.i64.wrap (h : Int) = (h : Int) := by rw [i64w]; omega
      have t1 : decide ((m : Int) < 1) = false := decide_eq_false (by omega)
      have t2 : decide ((2147483648 : Int) < (m : Int)) = false := decide_eq_false (by omega)
      clear e r h1 h2 hx
      go_enter Try.func10, Try.ntmps10
      go_wp2_with (go_at_call 21; (with_reducible refine (M.out _).mono ?_); rintro e w' ⟨rfl, rfl⟩)
      go_ret
      exact ⟨rfl, rfl⟩

theorem dice_Below (x : Nat) (n : Int) (w : World) (hx : x < 18446744073709551616) (hn : I64 n) :
    Calls Try.prog 10 #[.int .u64 x, .int .i64 n] w fun e w' => e = .returned (.int .i64 (belowN x n)) ∧ Below w.heap.size w w' :=
  below_of_same (fun w => dice_Below_same x n w hx hn) w

/-- A deck of seed s and particle q, of which c were drawn, lies at v; its blocks are B or beyond. -/
def DeckAt (w : World) (B : Nat) (v : Value) (s : Nat) (q : Int) (c : Nat) : Prop :=
  ∃ g, v = .pointer (some ⟨g, 0, none⟩) ∧ B ≤ g ∧ Bk w g 36 #[.bool true, .int .u64 s, .int .i64 q, .int .i64 c]
theorem DeckAt.below {w w' : World} {B : Nat} {v : Value} {s : Nat} {q : Int} {c : Nat} (h : DeckAt w B v s q c) (hb : Below w.heap.size w w') : DeckAt w' B v s q c := by
  obtain ⟨g, e, hB, hk⟩ := h
  exact ⟨g, e, hB, hk.below hb⟩
def deckZero : Array Value := #[.bool false, .int .u64 0, .int .i64 0, .int .i64 0]

theorem dice_New (s : Nat) (q : Int) (w : World) (hs : s < 18446744073709551616) (hq : I64 q) :
    Calls Try.prog 14 #[.int .u64 s, .int .i64 q] w fun e w' => ∃ v, e = .returned v ∧ DeckAt w' w.heap.size v s q 0 ∧ Below w.heap.size w w' := by
  go_enter Try.func14, Try.ntmps14
  go_wp2
  go_ret
  exact ⟨_, rfl, ⟨_, rfl, Nat.le_refl _, Bk.new _ _ _⟩, (Below.refl _ _).alloc (Nat.le_refl _) _⟩

theorem deck_usable (g : Nat) (b : Bool) (w : World) (c0 : w.cell? ⟨g, 0, none⟩ = some (.bool b)) :
    Calls Try.prog 24 #[.pointer (some ⟨g, 0, none⟩)] w fun e w' => e = .returned (.bool b) ∧ w = w' := by
  go_enter Try.func24, Try.ntmps24
  go_wp2
  go_ret
  exact ⟨rfl, rfl⟩

theorem nil_usable (w : World) :
    Calls Try.prog 24 #[.pointer none] w fun e w' => e = .returned (.bool false) ∧ w = w' := by
  go_enter Try.func24, Try.ntmps24
  go_wp2
  go_ret
  exact ⟨rfl, rfl⟩

set_option maxHeartbeats 1000000 in
theorem deck_Next {w : World} {B : Nat} {v : Value} {s : Nat} {q : Int} {c : Nat} (h : DeckAt w B v s q c) (hs : s < 18446744073709551616) (hq : I64 q) (hc : c ≤ 1048576) :
    Calls Try.prog 15 #[v] w fun e w' => e = .returned (.int .u64 (drawN s q c : Nat)) ∧ DeckAt w' B v s q (c + 1) ∧ Below B w w' := by
  obtain ⟨g, rfl, hB, hk⟩ := h
  have c0 : w.cell? ⟨g, 0, none⟩ = some (.bool true) := hk.cell rfl
  have c3 : w.cell? ⟨g, 3, none⟩ = some (.int .i64 c) := hk.cell rfl
  have fz := hk.frozen 3
  have U := Lib.hid (fun w c0 => deck_usable g true w c0)
  have D := Lib.hid (fun w => dice_Draw_same s q c w hs hq (by unfold I64; omega))
  have e1 : IntKind.i64.wrap ((c : Int) + 1) = (c : Int) + 1 := by rw [i64w]; omega
  generalize drawN s q c = d at *
  go_enter Try.func15, Try.ntmps15
  go_upto_region 5 with (go_at_call 24; (with_reducible refine (U.out _ c0).mono ?_); rintro e w' ⟨rfl, rfl⟩)
  have hk' : Bk (w.setCell ⟨g, 3, none⟩ (.int .i64 ((c : Int) + 1))) g 36 #[.bool true, .int .u64 s, .int .i64 q, .int .i64 ((c + 1 : Nat) : Int)] := hk.set 3 _
  have hb : Below B w (w.setCell ⟨g, 3, none⟩ (.int .i64 ((c : Int) + 1))) := by go_grown
  generalize w.setCell ⟨g, 3, none⟩ (.int .i64 ((c : Int) + 1)) = W at *
  have d1 : W.cell? ⟨g, 1, none⟩ = some (.int .u64 s) := hk'.cell rfl
  have d2 : W.cell? ⟨g, 2, none⟩ = some (.int .i64 q) := hk'.cell rfl
  go_still_tail 9, (by kernel_rfl)
  change wpList _ _ _ _ _ W.drew
  have hk2 : Bk W.drew g 36 #[.bool true, .int .u64 s, .int .i64 q, .int .i64 ((c + 1 : Nat) : Int)] := hk'
  have hb2 : Below B w W.drew := by go_grown
  clear hk' hb d1 d2
  generalize W.drew = W2 at *
  go_wp2_with (go_at_call 8; (with_reducible refine (D.out _).mono ?_); rintro e w' ⟨rfl, rfl⟩)
  go_ret
  exact ⟨rfl, ⟨g, rfl, hB, hk2⟩, hb2⟩

theorem deck_Count {w : World} {B : Nat} {v : Value} {s : Nat} {q : Int} {c : Nat} (h : DeckAt w B v s q c) (hs : s < 18446744073709551616) (hq : I64 q) (hc : c ≤ 1048576) :
    Calls Try.prog 18 #[v] w fun e w' => e = .returned (.int .i64 c) ∧ DeckAt w' B v s q c ∧ Below B w w' := by
  obtain ⟨g, rfl, hB, hk⟩ := h
  have c0 : w.cell? ⟨g, 0, none⟩ = some (.bool true) := hk.cell rfl
  have c3 : w.cell? ⟨g, 3, none⟩ = some (.int .i64 c) := hk.cell rfl
  have U := Lib.hid (fun w c0 => deck_usable g true w c0)
  go_enter Try.func18, Try.ntmps18
  go_wp2_with (go_at_call 24; (with_reducible refine (U.out _ c0).mono ?_); rintro e w' ⟨rfl, rfl⟩)
  go_ret
  exact ⟨rfl, ⟨g, rfl, hB, hk⟩, Below.refl _ _⟩

theorem draw_below {w : World} {B : Nat} {v : Value} {s : Nat} {q : Int} {c : Nat} (n : Int) (h : DeckAt w B v s q c) (hs : s < 18446744073709551616) (hq : I64 q) (hc : c ≤ 1048576) (hn : I64 n) :
    Calls Try.prog 25 #[.func (.func 15) #[v] #[], .int .i64 n] w fun e w' => e = .returned (.int .i64 (belowN (drawN s q c) n)) ∧ DeckAt w' B v s q (c + 1) ∧ Below B w w' := by
  have N := Lib.hid (deck_Next h hs hq hc)
  have L := Lib.hid (fun w => dice_Below_same (drawN s q c) n w (drawN_lt _ _ _) hn)
  clear h
  generalize belowN (drawN s q c) n = r at *
  generalize drawN s q c = d at *
  go_enter Try.func25, Try.ntmps25
  go_wp2_with (first
    | (go_at_call 15; (with_reducible refine N.out.mono ?_); rintro e w1 ⟨rfl, h1, hb1⟩)
    | (go_at_call 10; (with_reducible refine (L.out _).mono ?_); rintro e w2 ⟨rfl, rfl⟩))
  go_ret
  exact ⟨rfl, h1, hb1⟩

theorem deck_Turn {w : World} {B : Nat} {v : Value} {s : Nat} {q : Int} {c : Nat} (h : DeckAt w B v s q c) (hs : s < 18446744073709551616) (hq : I64 q) (hc : c ≤ 1048576) :
    Calls Try.prog 16 #[v] w fun e w' => e = .returned (.int .i64 (belowN (drawN s q c) 65536)) ∧ DeckAt w' B v s q (c + 1) ∧ Below B w w' := by
  have N := Lib.hid (draw_below 65536 h hs hq hc (by unfold I64; omega))
  clear h
  generalize belowN (drawN s q c) 65536 = r at *
  go_enter Try.func16, Try.ntmps16
  go_wp2_with (go_at_call 25; (with_reducible refine N.out.mono ?_); rintro e w1 ⟨rfl, h1, hb1⟩)
  go_ret
  exact ⟨rfl, h1, hb1⟩

theorem deck_Pick {w : World} {B : Nat} {v : Value} {s : Nat} {q : Int} {c : Nat} (n : Int) (h : DeckAt w B v s q c) (hs : s < 18446744073709551616) (hq : I64 q) (hc : c ≤ 1048576) (hn : I64 n) :
    Calls Try.prog 17 #[v, .int .i64 n] w fun e w' => e = .returned (.int .i64 (belowN (drawN s q c) n)) ∧ DeckAt w' B v s q (c + 1) ∧ Below B w w' := by
  have N := Lib.hid (draw_below n h hs hq hc hn)
  clear h
  generalize belowN (drawN s q c) n = r at *
  go_enter Try.func17, Try.ntmps17
  go_wp2_with (go_at_call 25; (with_reducible refine N.out.mono ?_); rintro e w1 ⟨rfl, h1, hb1⟩)
  go_ret
  exact ⟨rfl, h1, hb1⟩

/-- No deck: nil, or one that New did not return. -/
theorem nil_Next (w : World) : Calls Try.prog 15 #[.pointer none] w fun e w' => e = .returned (.int .u64 0) ∧ Below w.heap.size w w' := by
  have U := Lib.hid (fun w => nil_usable w)
  go_enter Try.func15, Try.ntmps15
  go_wp2_with (go_at_call 24; (with_reducible refine (U.out _).mono ?_); rintro e w' ⟨rfl, rfl⟩)
  go_ret
  exact ⟨rfl, Below.refl _ _⟩

theorem nil_Turn (w : World) : Calls Try.prog 16 #[.pointer none] w fun e w' => e = .returned (.int .i64 0) ∧ Below w.heap.size w w' := by
  have U := Lib.hid (fun w => nil_Next w)
  have L : Hid (∀ w, Calls Try.prog 10 #[.int .u64 0, .int .i64 65536] w fun e w' => e = .returned (.int .i64 0) ∧ w = w') := Lib.hid (fun w => by
    have h := dice_Below_same 0 65536 w (by omega) (by unfold I64; omega)
    rw [show belowN 0 65536 = 0 by decide] at h
    exact h)
  go_enter Try.func16, Try.ntmps16
  go_wp2_with (first
    | (go_at_call 25; go_in)
    | (go_at_call 15; (with_reducible refine (U.out _).mono ?_); rintro e w1 ⟨rfl, hb1⟩)
    | (go_at_call 10; (with_reducible refine (L.out _).mono ?_); rintro e w2 ⟨rfl, rfl⟩))
  go_ret
  exact ⟨rfl, hb1⟩

theorem nil_Count (w : World) : Calls Try.prog 18 #[.pointer none] w fun e w' => e = .returned (.int .i64 0) ∧ Below w.heap.size w w' := by
  have U := Lib.hid (fun w => nil_usable w)
  go_enter Try.func18, Try.ntmps18
  go_wp2_with (go_at_call 24; (with_reducible refine (U.out _).mono ?_); rintro e w' ⟨rfl, rfl⟩)
  go_ret
  exact ⟨rfl, Below.refl _ _⟩

theorem plain_Next (g : Nat) (w : World) (h : Bk w g 36 deckZero) : Calls Try.prog 15 #[.pointer (some ⟨g, 0, none⟩)] w fun e w' => e = .returned (.int .u64 0) ∧ Below w.heap.size w w' := by
  have c0 : w.cell? ⟨g, 0, none⟩ = some (.bool false) := h.cell rfl
  have U := Lib.hid (fun w c0 => deck_usable g false w c0)
  go_enter Try.func15, Try.ntmps15
  go_wp2_with (go_at_call 24; (with_reducible refine (U.out _ c0).mono ?_); rintro e w' ⟨rfl, rfl⟩)
  go_ret
  exact ⟨rfl, Below.refl _ _⟩

theorem plain_Pick (g : Nat) (n : Int) (w : World) (hn : I64 n) (h : Bk w g 36 deckZero) : Calls Try.prog 17 #[.pointer (some ⟨g, 0, none⟩), .int .i64 n] w fun e w' => e = .returned (.int .i64 0) ∧ Below w.heap.size w w' := by
  have U := Lib.hid (plain_Next g w h)
  have e0 : belowN 0 n = 0 := by unfold belowN; split <;> simp
  have L : Hid (∀ w, Calls Try.prog 10 #[.int .u64 0, .int .i64 n] w fun e w' => e = .returned (.int .i64 0) ∧ w = w') := Lib.hid (fun w => by
    have h := dice_Below_same 0 n w (by omega) hn
    rw [e0] at h
    exact h)
  clear e0
  go_enter Try.func17, Try.ntmps17
  go_wp2_with (first
    | (go_at_call 25; go_in)
    | (go_at_call 15; (with_reducible refine U.out.mono ?_); rintro e w1 ⟨rfl, hb1⟩)
    | (go_at_call 10; (with_reducible refine (L.out _).mono ?_); rintro e w2 ⟨rfl, rfl⟩))
  go_ret
  exact ⟨rfl, hb1⟩

theorem plain_Count (g : Nat) (w : World) (h : Bk w g 36 deckZero) : Calls Try.prog 18 #[.pointer (some ⟨g, 0, none⟩)] w fun e w' => e = .returned (.int .i64 0) ∧ Below w.heap.size w w' := by
  have c0 : w.cell? ⟨g, 0, none⟩ = some (.bool false) := h.cell rfl
  have U := Lib.hid (fun w c0 => deck_usable g false w c0)
  go_enter Try.func18, Try.ntmps18
  go_wp2_with (go_at_call 24; (with_reducible refine (U.out _ c0).mono ?_); rintro e w' ⟨rfl, rfl⟩)
  go_ret
  exact ⟨rfl, Below.refl _ _⟩

end Go.Proofs.Ytfofnkchieajpaa
