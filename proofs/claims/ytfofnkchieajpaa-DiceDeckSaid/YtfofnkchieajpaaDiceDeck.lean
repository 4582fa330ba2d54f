/- The walk of the statement DiceDeck. -/
import Derived.Test.YtfofnkchieajpaaAwake04
import Derived.ChangeSlices
import Derived.Deep.DeepCutAuto
import Derived.WideShapes
import Derived.DataReads
namespace Go.Proofs.Ytfofnkchieajpaa
open Go.RowKit Go.Proofs.Sky
set_option linter.unusedVariables false

theorem bw_callp {P : Program} {f : FuncId} {args : Array Value} {v : Value} {wb : World} (h : ∀ p : BW wb, Calls P f args p.w fun e w' => e = .returned v ∧ Below p.w.heap.size p.w w') (p : BW wb) :
    Calls P f args p.w fun e w' => e = .returned v ∧ ∃ q : BW wb, w' = q.w :=
  (h p).mono fun e w' ⟨he, hb⟩ => ⟨he, p.next w' hb, rfl⟩

/-- A slice of ints that came in. -/
def IntSlice (w : World) (a : Option Addr) (n : Nat) (Z : Nat → Int) : Prop :=
  n = 0 ∨ ∃ b off, a = some ⟨b, off, none⟩ ∧ (∀ k, k < n → w.cell? ⟨b, off + k, none⟩ = some (.int .i64 (Z k)) ∧ I64 (Z k)) ∧ b < w.heap.size
theorem open_intslice {H : Type} {enc : TypeId × Value → H} {W : World} {r : Reach} {b0 : Nat} {v : Value} {d : DataW H} {p : List MemPlace} (hv : Value.okWide Try.prog W r b0 29 v)
    (h : DataW.Trod enc Try.prog W 0 (fun _ => true) true 29 v d p) : ∃ (a : Option Addr) (len cap : Nat) (Z : Nat → Int), v = .slice a len cap ∧ len ≤ maxLen ∧ IntSlice W a len Z := by
  obtain ⟨a, len, cap, rfl⟩ := Go.WideShapes.okWide_slice Try.underlying29 hv
  obtain ⟨fuel, hf⟩ := h
  rcases Go.ChangeShapes.open_ints Try.underlying29 Try.underlying3 (by kernel_rfl) hf with ⟨hc, hx⟩ | ⟨A, len', cap', zs, hc, _, hl, hm, hlen, hx, hall, hwf⟩
  · cases hc
    exact ⟨_, 0, 0, fun _ => 0, rfl, by unfold maxLen; omega, .inl rfl⟩
  · cases hc
    rw [if_pos rfl] at hlen
    refine ⟨_, len, cap, fun i => zs.getD i 0, rfl, by omega, ?_⟩
    by_cases h0 : len = 0
    · exact .inl h0
    · right
      have hsp : A.spot = none := by
        have := World.cell?_spot (hall 0 (by omega))
        simpa [Addr.add] using this
      obtain ⟨b, off, sp⟩ := A
      simp only at hsp
      subst hsp
      have adds : ∀ i, (⟨b, off, none⟩ : Addr).add i = ⟨b, off + i, none⟩ := fun i => by
        unfold Addr.add; split
        · rename_i h; rw [h]; rfl
        · rfl
      refine ⟨b, off, rfl, fun k hk => ⟨?_, ?_⟩, ?_⟩
      · have := hall k (by omega)
        rwa [adds] at this
      · refine I64.of_wf (hwf _ ?_)
        show zs.getD k 0 ∈ zs
        rw [List.getD_eq_getElem?_getD, List.getElem?_eq_getElem (by omega)]
        exact List.getElem_mem _
      · have := hall 0 (by omega)
        rw [adds] at this
        exact World.block_lt_of_cell? W _ this

set_option maxRecDepth 100000 in
theorem law_DiceDeck_no (s q : Int) (a : Option Addr) (len cap : Nat) (w : World) (hl : 30 < len) :
    Calls Try.prog 5 #[.int .u64 s, .int .i64 q, .slice a len cap] w fun e w' => e = .returned (.bool true) ∧ Below w.heap.size w w' := by
  have HA := Lib.hid (fun w => awake04 w)
  have t : decide ((30 : Int) < (len : Int)) = true := decide_eq_true (by omega)
  clear hl
  go_enter Try.func5, Try.ntmps5
  go_wp2_with (go_at_call 12; refine (HA.out _).mono ?_; rintro e w1 ⟨rfl, hb⟩)
  go_ret
  exact ⟨rfl, hb⟩

set_option maxRecDepth 100000 in
set_option maxHeartbeats 8000000 in
theorem law_DiceDeck_yes (S : Nat) (q : Int) (a : Option Addr) (len cap : Nat) (Z : Nat → Int) (w : World) (hS : S < 18446744073709551616) (hq : I64 q) (hl : len ≤ 30) (hZ : IntSlice w a len Z) :
    Calls Try.prog 5 #[.int .u64 S, .int .i64 q, .slice a len cap] w fun e w' => e = .returned (.bool true) ∧ Below w.heap.size w w' := by
  have HA := Lib.hid (fun w => awake04 w)
  have HN := Lib.hid (fun w => dice_New S q w hS hq)
  have HS := Lib.hid hS
  have HQ := Lib.hid hq
  have HZ := Lib.hid hZ
  have t : decide ((30 : Int) < (len : Int)) = false := decide_eq_false (by omega)
  have hl' : (len : Int) ≤ 30 := by omega
  clear hS hq hZ hl
  go_enter Try.func5, Try.ntmps5
  go_wp2_with (go_at_call 14; (with_reducible refine (HN.out _).mono ?_); rintro e w0 ⟨v, rfl, hd0, h0⟩)
  go_loopw [8] (fun i wr => ∃ k : Nat, k ≤ len ∧ i = .int .i64 k ∧ DeckAt wr w.heap.size v S q k ∧ Below w.heap.size w wr) (fun i _ => len - (intOf i).toNat)
  case atStart => exact ⟨0, by omega, rfl, hd0, h0⟩
  case round =>
    clear hd0 h0 HN t
    obtain ⟨k, hk, rfl, hd, hB⟩ := hrel
    have HB := Lib.hid hB
    clear hB
    by_cases hlt : k < len
    · obtain ⟨b, off, rfl, hall, hb⟩ := HZ.out.resolve_left (by omega)
      obtain ⟨hz, iz⟩ := hall k hlt
      have KD := Lib.hid (fun w => dice_Draw S q k w HS.out HQ.out (by unfold I64; omega))
      have KN : Hid (∀ W, DeckAt W w.heap.size v S q k → _) := Lib.hid (fun W (h : DeckAt W w.heap.size v S q k) => deck_Next h HS.out HQ.out (by omega))
      have KT : Hid (∀ W, DeckAt W w.heap.size v S q k → _) := Lib.hid (fun W (h : DeckAt W w.heap.size v S q k) => deck_Turn h HS.out HQ.out (by omega))
      have KP : Hid (∀ W, DeckAt W w.heap.size v S q k → _) := Lib.hid (fun W (h : DeckAt W w.heap.size v S q k) => deck_Pick (Z k) h HS.out HQ.out (by omega) iz)
      have KC : Hid (∀ W, DeckAt W w.heap.size v S q (k + 1) → Calls Try.prog 18 #[v] W fun e w' => e = .returned (.int .i64 ((k : Int) + 1)) ∧ DeckAt w' w.heap.size v S q (k + 1) ∧ Below w.heap.size W w') := Lib.hid (fun W (h : DeckAt W w.heap.size v S q (k + 1)) => by
        have := deck_Count h HS.out HQ.out (by omega)
        rw [show (((k + 1 : Nat)) : Int) = (k : Int) + 1 by omega] at this
        exact this)
      have KB := Lib.hid (fun w => dice_Below (drawN S q k) 65536 w (drawN_lt _ _ _) (by unfold I64; omega))
      have KL := Lib.hid (fun w => dice_Below (drawN S q k) (Z k) w (drawN_lt _ _ _) iz)
      have r1 := belowN_range (x := drawN S q k) (n := 65536) (drawN_lt _ _ _)
      have r2 := belowN_range (x := drawN S q k) (n := Z k) (drawN_lt _ _ _)
      have CZ := Lib.hid hz
      have c0 : ∀ W, Below w.heap.size w W → W.cell? ⟨b, off + k, none⟩ = some (.int .i64 (Z k)) := fun W h => (h.cell (p := ⟨b, off + k, none⟩) hb).trans hz
      have C0 := Lib.hid c0
      clear hz iz hall c0 HS HQ
      generalize Z k = z at *
      generalize drawN S q k = x at *
      generalize belowN x 65536 = m at *
      generalize belowN x z = n at *
      have klen : (k : Int) < (len : Int) := by omega
      by_cases z0 : z = 0
      · subst z0
        clear r1 r2 KT KP KB KL
        go_wp2_with (first
          | (go_at_call 8; (with_reducible refine (KD.out _).mono ?_); rintro e w1 ⟨rfl, h1⟩; have g1 : Below w.heap.size w w1 := HB.out.trans (h1.mono HB.out.size); have d1 := hd.below h1; have c1 : w1.cell? ⟨b, off + k, none⟩ = some (.int .i64 _) := (g1.cell (p := ⟨b, off + k, none⟩) hb).trans CZ.out)
          | (go_at_call 15; (with_reducible refine (KN.out _ d1).mono ?_); rintro e w2 ⟨rfl, d2, h2⟩; have g2 : Below w.heap.size w w2 := g1.trans h2; have c2 : w2.cell? ⟨b, off + k, none⟩ = some (.int .i64 _) := (g2.cell (p := ⟨b, off + k, none⟩) hb).trans CZ.out)
          | (go_at_call 18; (with_reducible refine (KC.out _ d2).mono ?_); rintro e w4 ⟨rfl, d4, h4⟩; have g4 : Below w.heap.size w w4 := g2.trans h4))
        go_roundw
        case rel => exact ⟨k + 1, by omega, by go_num, d4, g4⟩
        case measure => simp [intOf]; omega
      · have tz0 : (z == 0) = false := by simpa using z0
        by_cases z1 : z = 1
        · subst z1
          have t1 : decide (m < 0) = false := decide_eq_false (by omega)
          have t2 : decide (65535 < m) = false := decide_eq_false (by omega)
          clear r1 r2 KN KP KL z0
          go_wp2_with (first
            | (go_at_call 8; (with_reducible refine (KD.out _).mono ?_); rintro e w1 ⟨rfl, h1⟩; have g1 : Below w.heap.size w w1 := HB.out.trans (h1.mono HB.out.size); have d1 := hd.below h1; have c1 : w1.cell? ⟨b, off + k, none⟩ = some (.int .i64 _) := (g1.cell (p := ⟨b, off + k, none⟩) hb).trans CZ.out)
            | (go_at_call 16; (with_reducible refine (KT.out _ d1).mono ?_); rintro e w2 ⟨rfl, d2, h2⟩; have g2 : Below w.heap.size w w2 := g1.trans h2; have c2 : w2.cell? ⟨b, off + k, none⟩ = some (.int .i64 _) := (g2.cell (p := ⟨b, off + k, none⟩) hb).trans CZ.out)
            | (go_at_call 10; (with_reducible refine (KB.out _).mono ?_); rintro e w3 ⟨rfl, h3⟩; have g3 : Below w.heap.size w w3 := g2.trans (h3.mono g2.size); have d3 := d2.below h3; have c3 : w3.cell? ⟨b, off + k, none⟩ = some (.int .i64 _) := (g3.cell (p := ⟨b, off + k, none⟩) hb).trans CZ.out)
            | (go_at_call 18; (with_reducible refine (KC.out _ d3).mono ?_); rintro e w4 ⟨rfl, d4, h4⟩; have g4 : Below w.heap.size w w4 := g3.trans h4))
          go_roundw
          case rel => exact ⟨k + 1, by omega, by go_num, d4, g4⟩
          case measure => simp [intOf]; omega
        · have tz1 : (z == 1) = false := by simpa using z1
          have t1 : decide (n < 0) = false := decide_eq_false (by omega)
          by_cases n0 : 0 < n
          · have t2 : decide (0 < n) = true := decide_eq_true n0
            have t3 : decide (z ≤ n) = false := decide_eq_false (by omega)
            clear r1 r2 KN KT KB z0 z1 n0
            go_wp2_with (first
              | (go_at_call 8; (with_reducible refine (KD.out _).mono ?_); rintro e w1 ⟨rfl, h1⟩; have g1 : Below w.heap.size w w1 := HB.out.trans (h1.mono HB.out.size); have d1 := hd.below h1; have c1 : w1.cell? ⟨b, off + k, none⟩ = some (.int .i64 _) := (g1.cell (p := ⟨b, off + k, none⟩) hb).trans CZ.out)
              | (go_at_call 17; (with_reducible refine (KP.out _ d1).mono ?_); rintro e w2 ⟨rfl, d2, h2⟩; have g2 : Below w.heap.size w w2 := g1.trans h2; have c2 : w2.cell? ⟨b, off + k, none⟩ = some (.int .i64 _) := (g2.cell (p := ⟨b, off + k, none⟩) hb).trans CZ.out)
              | (go_at_call 10; (with_reducible refine (KL.out _).mono ?_); rintro e w3 ⟨rfl, h3⟩; have g3 : Below w.heap.size w w3 := g2.trans (h3.mono g2.size); have d3 := d2.below h3; have c3 : w3.cell? ⟨b, off + k, none⟩ = some (.int .i64 _) := (g3.cell (p := ⟨b, off + k, none⟩) hb).trans CZ.out)
              | (go_at_call 18; (with_reducible refine (KC.out _ d3).mono ?_); rintro e w4 ⟨rfl, d4, h4⟩; have g4 : Below w.heap.size w w4 := g3.trans h4))
            go_roundw
            case rel => exact ⟨k + 1, by omega, by go_num, d4, g4⟩
            case measure => simp [intOf]; omega
          · have t2 : decide (0 < n) = false := decide_eq_false n0
            clear r1 r2 KN KT KB z0 z1 n0
            go_wp2_with (first
              | (go_at_call 8; (with_reducible refine (KD.out _).mono ?_); rintro e w1 ⟨rfl, h1⟩; have g1 : Below w.heap.size w w1 := HB.out.trans (h1.mono HB.out.size); have d1 := hd.below h1; have c1 : w1.cell? ⟨b, off + k, none⟩ = some (.int .i64 _) := (g1.cell (p := ⟨b, off + k, none⟩) hb).trans CZ.out)
              | (go_at_call 17; (with_reducible refine (KP.out _ d1).mono ?_); rintro e w2 ⟨rfl, d2, h2⟩; have g2 : Below w.heap.size w w2 := g1.trans h2; have c2 : w2.cell? ⟨b, off + k, none⟩ = some (.int .i64 _) := (g2.cell (p := ⟨b, off + k, none⟩) hb).trans CZ.out)
              | (go_at_call 10; (with_reducible refine (KL.out _).mono ?_); rintro e w3 ⟨rfl, h3⟩; have g3 : Below w.heap.size w w3 := g2.trans (h3.mono g2.size); have d3 := d2.below h3; have c3 : w3.cell? ⟨b, off + k, none⟩ = some (.int .i64 _) := (g3.cell (p := ⟨b, off + k, none⟩) hb).trans CZ.out)
              | (go_at_call 18; (with_reducible refine (KC.out _ d3).mono ?_); rintro e w4 ⟨rfl, d4, h4⟩; have g4 : Below w.heap.size w w4 := g3.trans h4))
            go_roundw
            case rel => exact ⟨k + 1, by omega, by go_num, d4, g4⟩
            case measure => simp [intOf]; omega
    · obtain rfl : k = len := by omega
      clear HS HQ HZ hlt
      have N1 := Lib.hid (fun w => nil_Next w)
      have N2 := Lib.hid (fun w => nil_Turn w)
      have N3 := Lib.hid (fun w => nil_Count w)
      go_upto_region 23 with (fail)
      obtain ⟨W, hW⟩ : ∃ W, W = wr.alloc (.cells deckZero 36) := ⟨_, rfl⟩
      have hK : Bk W wr.heap.size 36 deckZero := by rw [hW]; exact Bk.new _ _ _
      have hB : Below w.heap.size w W := by rw [hW]; exact HB.out.alloc HB.out.size _
      unfold deckZero at hW
      obtain ⟨g, hg⟩ : ∃ g, g = wr.heap.size := ⟨_, rfl⟩
      rw [← hg] at hK
      have P1 : Hid (∀ p : BW W, Calls Try.prog 15 #[.pointer (some ⟨g, 0, none⟩)] p.w fun e w' => e = .returned (.int .u64 0) ∧ Below p.w.heap.size p.w w') := Lib.hid (fun p => plain_Next g p.w (hK.below p.h))
      have P2 : Hid (∀ p : BW W, Calls Try.prog 17 #[.pointer (some ⟨g, 0, none⟩), .int .i64 9] p.w fun e w' => e = .returned (.int .i64 0) ∧ Below p.w.heap.size p.w w') := Lib.hid (fun p => plain_Pick g 9 p.w (by unfold I64; omega) (hK.below p.h))
      have P3 : Hid (∀ p : BW W, Calls Try.prog 18 #[.pointer (some ⟨g, 0, none⟩)] p.w fun e w' => e = .returned (.int .i64 0) ∧ Below p.w.heap.size p.w w') := Lib.hid (fun p => plain_Count g p.w (hK.below p.h))
      have HE := Lib.hid (fun q : BW W => bw_below hB q)
      obtain ⟨p0, hp0⟩ : ∃ p0 : BW W, p0.w = W := ⟨BW.start W, rfl⟩
      rw [← hW, ← hg, ← hp0]
      clear hW hg hp0 hK hB hd HB
      go_wp2_with (first
        | (go_at_call 15; (with_reducible refine (bw_call N1.out _).mono ?_); rintro e w' ⟨rfl, q1, rfl⟩)
        | (go_at_call 15; (with_reducible refine (bw_callp P1.out _).mono ?_); rintro e w' ⟨rfl, q1, rfl⟩)
        | (go_at_call 16; (with_reducible refine (bw_call N2.out _).mono ?_); rintro e w' ⟨rfl, q1, rfl⟩)
        | (go_at_call 17; (with_reducible refine (bw_callp P2.out _).mono ?_); rintro e w' ⟨rfl, q1, rfl⟩)
        | (go_at_call 18; (with_reducible refine (bw_call N3.out _).mono ?_); rintro e w' ⟨rfl, q1, rfl⟩)
        | (go_at_call 18; (with_reducible refine (bw_callp P3.out _).mono ?_); rintro e w' ⟨rfl, q1, rfl⟩)
        | (go_at_call 12; (with_reducible refine (bw_call HA.out _).mono ?_); rintro e w' ⟨rfl, q1, rfl⟩))
      go_ret
      exact ⟨rfl, HE.out _⟩

theorem law_DiceDeck (s q : Int) (a : Option Addr) (len cap : Nat) (Z : Nat → Int) (w : World) (hs : U64 s) (hq : I64 q) (hZ : IntSlice w a len Z) :
    Calls Try.prog 5 #[.int .u64 s, .int .i64 q, .slice a len cap] w fun e w' => e = .returned (.bool true) ∧ Below w.heap.size w w' := by
  by_cases hl : 30 < len
  · exact law_DiceDeck_no s q a len cap w hl
  · obtain ⟨S, rfl⟩ := Int.eq_ofNat_of_zero_le hs.1
    exact law_DiceDeck_yes S q a len cap Z w (by unfold U64 at hs; omega) hq (by omega) hZ

end Go.Proofs.Ytfofnkchieajpaa
