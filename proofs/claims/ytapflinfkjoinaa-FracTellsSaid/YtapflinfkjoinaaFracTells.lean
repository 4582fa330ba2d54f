/- The walk of the statement FracTells. -/
import Derived.Test.YtapflinfkjoinaaAwake03
import Derived.Test.YtapflinfkjoinaaRefd03
import Derived.Test.YtapflinfkjoinaaBw
import Derived.Deep.SlicePairs
import Derived.WideShapes
import Derived.DataReads
namespace Go.Proofs.Ytapflinfkjoinaa
open Go.RowKit Go.Proofs.Sky
set_option linter.unusedVariables false

theorem bw_call' {P : Program} {f : FuncId} {args : Array Value} {v : Value} {wb : World} (h : ∀ p : BW wb, Calls P f args p.w fun e w' => e = .returned v ∧ Below p.w.heap.size p.w w') (p : BW wb) :
    Calls P f args p.w fun e w' => e = .returned v ∧ ∃ q : BW wb, w' = q.w :=
  (h p).mono fun e w' ⟨he, hb⟩ => ⟨he, p.next w' hb, rfl⟩

/-- A slice of fractions that came in. -/
def FrSlice (w : World) (a : Option Addr) (n : Nat) (N D : Nat → Int) : Prop :=
  n = 0 ∨ ∃ b off, a = some ⟨b, off, none⟩ ∧ FrRow w b off n N D ∧ (∀ k, k < n → I64 (N k) ∧ I64 (D k)) ∧ b < w.heap.size

set_option maxRecDepth 100000 in
theorem law_FracTells_no (p q r s n d : Int) (a : Option Addr) (len cap : Nat) (w : World) (hl : 12 < len) (hm : len ≤ maxLen) :
    Calls Try.prog 3 #[.agg #[.int .i64 p, .int .i64 q], .agg #[.int .i64 r, .int .i64 s], .int .i64 n, .int .i64 d, .slice a len cap] w fun e w' => e = .returned (.bool true) ∧ Below w.heap.size w w' := by
  have HA := Lib.hid (fun w => awake03 w)
  have t : decide ((12 : Int) < (len : Int)) = true := decide_eq_true (by omega)
  clear hl hm
  go_enter Try.func3, Try.ntmps3
  go_wp2_with (go_at_call 6; refine (HA.out _).mono ?_; rintro e w1 ⟨rfl, hb⟩)
  go_ret
  exact ⟨rfl, (((Below.refl _ _).alloc (Nat.le_refl _) _).alloc (by simp) _).trans (hb.mono (by simp; omega))⟩

set_option maxRecDepth 100000 in
set_option maxHeartbeats 4000000 in
theorem law_FracTells_yes (p q r s n d : Int) (a : Option Addr) (len cap : Nat) (L : Int) (w : World) (ip : I64 p) (iq : I64 q) (ir : I64 r) (is : I64 s) (in_ : I64 n) (id_ : I64 d) (hl : len ≤ 12)
    (hL : ∀ w', Below w.heap.size w w' → Calls Try.prog 15 #[.slice a len cap] w' fun e w'' => e = .returned (.int .i64 L) ∧ Below w'.heap.size w' w'')
    (hR : ∀ w', Below w.heap.size w w' → Calls Try.prog 16 #[.slice a len cap] w' fun e w'' => e = .returned (.int .i64 L) ∧ Below w'.heap.size w' w'') :
    Calls Try.prog 3 #[.agg #[.int .i64 p, .int .i64 q], .agg #[.int .i64 r, .int .i64 s], .int .i64 n, .int .i64 d, .slice a len cap] w fun e w' => e = .returned (.bool true) ∧ Below w.heap.size w w' := by
  have HA := Lib.hid (fun w => awake03 w)
  have M1 := Lib.hid (fun w => frac_Make n d w in_ id_)
  have M2 := Lib.hid (fun w => ref3_Make n d w in_ id_)
  generalize (fmake n d).1 = x0 at *
  generalize (fmake n d).2 = x1 at *
  generalize fmakeOk n d = ok at *
  have K1 := Lib.hid (fun w => frac_Right p q w)
  have K2 := Lib.hid (fun w => ref3_Right p q w)
  generalize decide (1 ≤ q) = k1 at *
  have K3 := Lib.hid (fun w => frac_Less p q r s w ip iq ir is)
  have K4 := Lib.hid (fun w => ref3_Less p q r s w ip iq ir is)
  generalize fless p q r s = k2 at *
  have K5 := Lib.hid (fun w => frac_Same p q r s w ip iq ir is)
  have K6 := Lib.hid (fun w => ref3_Same p q r s w ip iq ir is)
  generalize fsame p q r s = k3 at *
  have K9 := Lib.hid (fun w => frac_At n p q w in_ ip iq)
  have K10 := Lib.hid (fun w => ref3_At n p q w in_ ip iq)
  generalize fat n p q = k4 at *
  have K11 := Lib.hid (fun w => frac_Mid p q r s w)
  have K12 := Lib.hid (fun w => ref3_Mid p q r s w)
  generalize (fmid p q r s).1 = k5 at *
  generalize (fmid p q r s).2 = k6 at *
  have t : decide ((12 : Int) < (len : Int)) = false := decide_eq_false (by omega)
  have HL := Lib.hid hL
  have HR := Lib.hid hR
  clear hl ip iq ir is in_ id_ hL hR
  go_enter Try.func3, Try.ntmps3
  go_upto_region 5 with (first
    | (go_at_call 7; (with_reducible refine (M1.out _).mono ?_); rintro e w1 ⟨rfl, hb1⟩)
    | (go_at_call 8; (with_reducible refine (M2.out _).mono ?_); rintro e w2 ⟨rfl, hb2⟩))
  obtain ⟨W1, hW1⟩ : ∃ W, W = (w.alloc (.cells #[.int .i64 p, .int .i64 q] 23)).alloc (.cells #[.int .i64 r, .int .i64 s] 23) := ⟨_, rfl⟩
  rw [← hW1] at hb1
  obtain ⟨W2, hW2⟩ : ∃ W, W = w1.alloc (.cells #[.int .i64 x0, .int .i64 x1] 23) := ⟨_, rfl⟩
  rw [← hW2] at hb2
  obtain ⟨W3, hW3⟩ : ∃ W, W = w2.alloc (.cells #[.int .i64 x0, .int .i64 x1] 23) := ⟨_, rfl⟩
  have B0 : Below w.heap.size w W1 := by rw [hW1]; exact ((Below.refl _ _).alloc (Nat.le_refl _) _).alloc (by simp) _
  have B2 : Below w1.heap.size w1 W2 := by rw [hW2]; exact (Below.refl _ _).alloc (Nat.le_refl _) _
  have B3 : Below w2.heap.size w2 W3 := by rw [hW3]; exact (Below.refl _ _).alloc (Nat.le_refl _) _
  obtain ⟨g0, hg0⟩ : ∃ g, g = w.heap.size := ⟨_, rfl⟩
  obtain ⟨g1, hg1⟩ : ∃ g, g = w.heap.size + 1 := ⟨_, rfl⟩
  obtain ⟨g2, hg2⟩ : ∃ g, g = w1.heap.size := ⟨_, rfl⟩
  obtain ⟨g3, hg3⟩ : ∃ g, g = w2.heap.size := ⟨_, rfl⟩
  have A0 : W1.cell? ⟨g0, 0, none⟩ = some (.int .i64 p) := by subst hg0 hW1; simp [go_sem]
  have A1 : W1.cell? ⟨g0, 1, none⟩ = some (.int .i64 q) := by subst hg0 hW1; simp [go_sem]
  have A2 : W1.cell? ⟨g1, 0, none⟩ = some (.int .i64 r) := by subst hg1 hW1; simp [go_sem]
  have A3 : W1.cell? ⟨g1, 1, none⟩ = some (.int .i64 s) := by subst hg1 hW1; simp [go_sem]
  have A4 : W2.cell? ⟨g2, 0, none⟩ = some (.int .i64 x0) := by subst hg2 hW2; simp [go_sem]
  have A5 : W2.cell? ⟨g2, 1, none⟩ = some (.int .i64 x1) := by subst hg2 hW2; simp [go_sem]
  have A6 : W3.cell? ⟨g3, 0, none⟩ = some (.int .i64 x0) := by subst hg3 hW3; simp [go_sem]
  have A7 : W3.cell? ⟨g3, 1, none⟩ = some (.int .i64 x1) := by subst hg3 hW3; simp [go_sem]
  obtain ⟨E, hE⟩ : ∃ E : BW W1, E.w = W3 := ⟨(((BW.start W1).next w1 hb1).next W2 B2).next w2 hb2 |>.next W3 B3, rfl⟩
  obtain ⟨F, hF⟩ : ∃ F : BW W2, F.w = W3 := ⟨((BW.start W2).next w2 hb2).next W3 B3, rfl⟩
  have c0 : ∀ p : BW W3, p.w.cell? ⟨g0, 0, none⟩ = some (.int .i64 _) := bw_cell (by rw [← hE]; exact bw_cell A0 E)
  have c1 : ∀ p : BW W3, p.w.cell? ⟨g0, 1, none⟩ = some (.int .i64 _) := bw_cell (by rw [← hE]; exact bw_cell A1 E)
  have c2 : ∀ p : BW W3, p.w.cell? ⟨g1, 0, none⟩ = some (.int .i64 _) := bw_cell (by rw [← hE]; exact bw_cell A2 E)
  have c3 : ∀ p : BW W3, p.w.cell? ⟨g1, 1, none⟩ = some (.int .i64 _) := bw_cell (by rw [← hE]; exact bw_cell A3 E)
  have c4 : ∀ p : BW W3, p.w.cell? ⟨g2, 0, none⟩ = some (.int .i64 _) := bw_cell (by rw [← hF]; exact bw_cell A4 F)
  have c5 : ∀ p : BW W3, p.w.cell? ⟨g2, 1, none⟩ = some (.int .i64 _) := bw_cell (by rw [← hF]; exact bw_cell A5 F)
  have c6 : ∀ p : BW W3, p.w.cell? ⟨g3, 0, none⟩ = some (.int .i64 _) := bw_cell A6
  have c7 : ∀ p : BW W3, p.w.cell? ⟨g3, 1, none⟩ = some (.int .i64 _) := bw_cell A7
  have HB : Hid (∀ q : BW W3, Below w.heap.size w q.w) := Lib.hid (fun q => bw_below (by rw [← hE]; exact bw_below B0 E) q)
  have K7 : Hid (∀ p : BW W3, Calls Try.prog 15 #[.slice a len cap] p.w fun e w'' => e = .returned (.int .i64 L) ∧ Below p.w.heap.size p.w w'') := Lib.hid (fun p => HL.out p.w (HB.out p))
  have K8 : Hid (∀ p : BW W3, Calls Try.prog 16 #[.slice a len cap] p.w fun e w'' => e = .returned (.int .i64 L) ∧ Below p.w.heap.size p.w w'') := Lib.hid (fun p => HR.out p.w (HB.out p))
  rw [← hW3, ← hg1, ← hg0, ← hg2, ← hg3]
  clear A0 A1 A2 A3 A4 A5 A6 A7 hE hF E F B0 B2 B3 hb1 hb2 hW1 hW2 hW3 hg0 hg1 hg2 hg3 HL HR M1 M2
  obtain ⟨p0, hp0⟩ : ∃ p0 : BW W3, p0.w = W3 := ⟨BW.start W3, rfl⟩
  rw [← hp0]
  clear hp0
  refine wp_region_bw (by kernel_rfl) (by kernel_rfl) ?_
  repeat (go_big_quiet_step (first
    | (go_at_call 9; (with_reducible exact bw_call K1.out _))
    | (go_at_call 10; (with_reducible exact bw_call K2.out _))
    | (go_at_call 11; (with_reducible exact bw_call K3.out _))
    | (go_at_call 12; (with_reducible exact bw_call K4.out _))
    | (go_at_call 13; (with_reducible exact bw_call K5.out _))
    | (go_at_call 14; (with_reducible exact bw_call K6.out _))
    | (go_at_call 17; (with_reducible exact bw_call K9.out _))
    | (go_at_call 18; (with_reducible exact bw_call K10.out _))
    | (go_at_call 19; (with_reducible exact bw_call K11.out _))
    | (go_at_call 20; (with_reducible exact bw_call K12.out _))
    | (go_at_call 6; (with_reducible exact bw_call HA.out _))
    | (go_at_call 15; (with_reducible exact bw_call' K7.out _))
    | (go_at_call 16; (with_reducible exact bw_call' K8.out _))))
  refine wpQuiet_nil ?_
  intro _ hw'
  obtain ⟨q, rfl⟩ := hw'
  go_wp2
  go_ret
  exact ⟨rfl, HB.out _⟩

theorem law_FracTells (p q r s n d : Int) (a : Option Addr) (len cap : Nat) (N D : Nat → Int) (w : World) (ip : I64 p) (iq : I64 q) (ir : I64 r) (is : I64 s) (in_ : I64 n) (id_ : I64 d) (hm : len ≤ maxLen) (hS : FrSlice w a len N D) :
    Calls Try.prog 3 #[.agg #[.int .i64 p, .int .i64 q], .agg #[.int .i64 r, .int .i64 s], .int .i64 n, .int .i64 d, .slice a len cap] w fun e w' => e = .returned (.bool true) ∧ Below w.heap.size w w' := by
  by_cases hl : 12 < len
  · exact law_FracTells_no p q r s n d a len cap w hl hm
  · rcases hS with rfl | ⟨b, off, rfl, hrow, hN, hb⟩
    · exact law_FracTells_yes p q r s n d a 0 cap (-1) w ip iq ir is in_ id_ (by omega) (fun w' _ => frac_Least_none a cap w') (fun w' _ => ref3_Least_none a cap w')
    · exact law_FracTells_yes p q r s n d _ len cap (lst N D len) w ip iq ir is in_ id_ (by omega) (fun w' hB => frac_Least b off cap len N D w' (hrow.below hB hb) hN (Nat.lt_of_lt_of_le hb hB.size) (by omega))
        (fun w' hB => ref3_Least b off cap len N D w' (hrow.below hB hb) hN (Nat.lt_of_lt_of_le hb hB.size) (by omega))

/-- The slice, as it came in. -/
theorem open_fracs {H : Type} {enc : TypeId × Value → H} {W : World} {r : Reach} {b0 : Nat} {v : Value} {d : DataW H} {p : List MemPlace} (hv : Value.okWide Try.prog W r b0 24 v)
    (h : DataW.Trod enc Try.prog W 0 (fun _ => true) true 24 v d p) : ∃ (a : Option Addr) (len cap : Nat) (N D : Nat → Int), v = .slice a len cap ∧ len ≤ maxLen ∧ FrSlice W a len N D := by
  obtain ⟨a, len, cap, rfl⟩ := Go.WideShapes.okWide_slice Try.underlying24 hv
  obtain ⟨fuel, hf⟩ := h
  rcases Go.Deep.open_slice_pairs Try.underlying24 Try.underlying23 (by kernel_rfl) rfl rfl (by kernel_rfl) (by kernel_rfl) hf with ⟨hc, hx⟩ | ⟨A, len', cap', m, n, V0, V1, D0, D1, P0, P1, hc, _, hl, hm, hmm, hx, hall⟩
  · cases hc
    exact ⟨_, 0, 0, fun _ => 0, fun _ => 0, rfl, by unfold maxLen; omega, .inl rfl⟩
  · cases hc
    rw [if_pos rfl] at hmm
    refine ⟨_, len, cap, fun i => intOf (V0 i), fun i => intOf (V1 i), rfl, by omega, ?_⟩
    by_cases h0 : len = 0
    · exact .inl h0
    · right
      have each : ∀ k, k < len → W.cell? (A.add (k * 2)) = some (.int .i64 (intOf (V0 k))) ∧ W.cell? (A.add (k * 2 + 1)) = some (.int .i64 (intOf (V1 k))) ∧ I64 (intOf (V0 k)) ∧ I64 (intOf (V1 k)) := by
        intro k hk
        obtain ⟨h1, h2, h3, h4⟩ := hall k (by omega)
        obtain ⟨x, e1, _, w1⟩ := DataW.trod_int Try.underlying3 h3
        obtain ⟨y, e2, _, w2⟩ := DataW.trod_int Try.underlying3 h4
        have e1' := (List.cons.inj e1).1
        have e2' := (List.cons.inj e2).1
        rw [e1'] at h1 ⊢
        rw [e2'] at h2 ⊢
        exact ⟨h1, h2, I64.of_wf w1, I64.of_wf w2⟩
      have hsp : A.spot = none := by
        have := World.cell?_spot (each 0 (by omega)).1
        simpa [Addr.add] using this
      obtain ⟨b, off, sp⟩ := A
      simp only at hsp
      subst hsp
      have adds : ∀ i, (⟨b, off, none⟩ : Addr).add i = ⟨b, off + i, none⟩ := fun i => by
        unfold Addr.add; split
        · rename_i h; rw [h]; rfl
        · rfl
      refine ⟨b, off, rfl, fun k hk => ?_, fun k hk => (each k hk).2.2, ?_⟩
      · have := each k hk
        rw [adds, adds] at this
        exact ⟨this.1, this.2.1⟩
      · have := (each 0 (by omega)).1
        rw [adds] at this
        exact World.block_lt_of_cell? W _ this

end Go.Proofs.Ytapflinfkjoinaa
