/- The last step of a law's row, whatever its parameters' types: the call -/
import Derived.ProofKit
import Derived.OpenShut
import Derived.Carry
import Derived.ChangeSame
import Derived.Lib.SmallJoins
import Derived.ChangeArms
import Derived.WideShapes
import Derived.Test.YtbmpmjdlaahekaaGreatProg
import Derived.Test.YtbmpmjdlaahekaaGreatShelf
import Derived.WalkLawsBesides
import Derived.WalkSpells
import Derived.Test.YtbmpmjdlaahekaaGreatWs4
set_option maxRecDepth 100000
set_option maxHeartbeats 8000000
set_option linter.unusedVariables false
set_option linter.unusedSimpArgs false
open Go.Proofs.Tryz
namespace Go.Proofs.Sky
section
section
open Go.ChangeShapes Go.WideShapes Go.ChangeAt Go.RowKit Go.Joins
section
variable {H : Type} {enc : TypeId × Value → H} {P : Program}
theorem args_stay (hl : laidOutB P = true) {W W' : World} (hb : Below W.heap.size W W') : ∀ (ts : List TypeId) (vs : List Value) (ds : List (DataW H)) (ps : List MemPlace),
  (ts.all fun t => P.readableRec t && decide (t < P.types.size)) = true → DataW.TrodAll enc P W 0 (fun _ => true) true ts vs ds ps → (∀ x ∈ ps, x.block < W.heap.size) →
  DataW.TrodAll enc P W' 0 (fun b => decide (b < W.heap.size)) true ts vs ds ps
 | [], vs, ds, ps, _, h, _ => by
  obtain ⟨rfl, rfl, rfl⟩ := trodAll_nil h
  exact trodAll_mk0
 | t :: ts, vs, ds, ps, hr, h, hlt => by
  obtain ⟨v, vs', d, ds', p, q, rfl, rfl, rfl, h1, h2⟩ := trodAll_cons h
  simp only [List.all_cons, Bool.and_eq_true, decide_eq_true_eq] at hr
  exact trodAll_cons_mk (Below.trod hl hr.1.1 hr.1.2 h1 hb fun x hx => hlt x (List.mem_append.2 (.inl hx)))
   (args_stay hl hb ts vs' ds' q (by simpa using hr.2) h2 fun x hx => hlt x (List.mem_append.2 (.inr hx)))
theorem law_done {f : Func} {s : ChangeSpec} {W W' : World} {args : Array Value} {ds gs : List (DataW H)} {before : List MemPlace} {t : TypeId}
  (hl : laidOutB P = true) (hr : (f.params.toList.all fun t => P.readableRec t && decide (t < P.types.size)) = true)
  (hW : DataW.Whole enc P f.params.toList s.vars false W args.toList ds gs before) (hv : s.vars = []) (hres : f.resultTypes = #[t]) (ht : P.underlying t = some .bool)
  (hs : (s.fn H (ds ++ gs)).results = [.lit (.bool true)] ∧ (s.fn H (ds ++ gs)).args = ds ∧ (s.fn H (ds ++ gs)).vars = []) (hb : Below W.heap.size W W') :
  s.post enc P f false true false false W args (.bool true) W' := by
 have hlt := hW.lt
 have hW' := hW
 obtain ⟨p, q, hA, hV, rfl, _, _⟩ := hW
 rw [hv] at hV
 obtain ⟨rfl, rfl⟩ := trodVars_none hV
 obtain ⟨s1, s2, s3⟩ := hs
 refine ⟨ds, [], p ++ [], [], p ++ [], [], hW', ?_, ?_, ?_, hb.frame _, fun h => by cases h⟩
 · rw [s1, hres]
   exact trodAll_cons_mk (shut_bool ht _) trodAll_mk0
 · rw [s2]
   have := args_stay hl hb _ _ _ _ hr hA (fun x hx => hlt x (List.mem_append.2 (.inl hx)))
   simpa using this
 · rw [s3, hv]; rfl
end
end
end
section
section
open Go.ChangeShapes Go.WideShapes Go.RowKit
inductive LK where
 | int (k : IntKind)
 | bool
def leafOk : LK → Value → Prop
 | .int k, v => ∃ n, v = .int k n ∧ (Lit.int k n).wf = true
 | .bool, v => ∃ b, v = .bool b
def LeafAll : List LK → List Value → Prop
 | [], cs => cs = []
 | k :: ks, cs => ∃ v r, cs = v :: r ∧ leafOk k v ∧ LeafAll ks r
theorem LeafAll.append : ∀ {a b : List LK} {x y : List Value}, LeafAll a x → LeafAll b y → LeafAll (a ++ b) (x ++ y)
 | [], _, x, y, h, g => by
  have : x = [] := h
  subst this
  exact g
 | k :: a, b, x, y, h, g => by
  obtain ⟨v, r, rfl, h1, h2⟩ := h
  exact ⟨v, r ++ y, rfl, h1, h2.append g⟩
section
variable (P : Program)
def flatFields (fl : TypeId → Option (List LK)) : List Field → Nat → Option (List LK)
 | [], _ => some []
 | f :: fs, off => if f.offset = off then
   match fl f.type with
   | some ks => if P.cellsOf f.type = ks.length then (flatFields fl fs (off + ks.length)).map (fun r => ks ++ r) else none
   | none => none
  else none
def flat : Nat → TypeId → Option (List LK)
 | 0, _ => none
 | n + 1, t => match P.underlying t with
  | some (.int k) => some [.int k]
  | some .bool => some [.bool]
  | some (.struct fs) => match flatFields P (flat n) fs.toList 0 with
   | some ks => if P.cellsOf t = ks.length then some ks else none
   | none => none
  | _ => none
end
section
variable {P : Program} {H : Type} {enc : TypeId × Value → H} {w : World} {base : Nat} {spare : Nat → Bool} {held : Bool}
theorem flatFields_trod {fl : TypeId → Option (List LK)} {cs : List Value} (hfl : ∀ t ks, fl t = some ks → ∀ fuel cs x, DataW.trod enc P w base spare held fuel t cs = some x → LeafAll ks cs) :
  ∀ (fs : List Field) (off : Nat) (ks : List LK), flatFields P fl fs off = some ks → (∀ f ∈ fs, ∃ y n, DataW.trod enc P w base spare held n f.type ((cs.drop f.offset).take (P.cellsOf f.type)) = some y) →
   LeafAll ks ((cs.drop off).take ks.length)
 | [], off, ks, h, _ => by
  unfold flatFields at h
  cases h
  rfl
 | f :: fs, off, ks, h, hy => by
  unfold flatFields at h
  split at h
  · rename_i ho
    split at h
    · rename_i k1 hk1
      split at h
      · rename_i hc
        cases hr : flatFields P fl fs (off + k1.length) with
        | none => rw [hr] at h; cases h
        | some k2 =>
         rw [hr] at h
         simp only [Option.map_some, Option.some.injEq] at h
         subst h
         obtain ⟨y, n, hyn⟩ := hy f (List.mem_cons_self)
         have a := hfl _ _ hk1 _ _ _ hyn
         rw [hc, ho] at a
         have b := flatFields_trod hfl fs (off + k1.length) k2 hr (fun g hg => hy g (List.mem_cons_of_mem _ hg))
         have e : (cs.drop off).take (k1 ++ k2).length = (cs.drop off).take k1.length ++ (cs.drop (off + k1.length)).take k2.length := by
          rw [List.length_append, List.take_add, List.drop_drop]
         rw [e]
         exact a.append b
      · cases h
    · cases h
  · cases h
theorem flat_trod : ∀ (n : Nat) (t : TypeId) (ks : List LK), flat P n t = some ks → ∀ fuel cs x, DataW.trod enc P w base spare held fuel t cs = some x → LeafAll ks cs
 | 0, _, _, h => by cases h
 | n + 1, t, ks, h => fun fuel cs x hx => by
  unfold flat at h
  split at h
  · rename_i k hk
    cases h
    obtain ⟨m, rfl, _, hw⟩ := DataW.trod_int hk hx
    exact ⟨_, _, rfl, ⟨m, rfl, hw⟩, rfl⟩
  · rename_i hk
    cases h
    obtain ⟨b, rfl, _⟩ := DataW.trod_bool hk hx
    exact ⟨_, _, rfl, ⟨b, rfl⟩, rfl⟩
  · rename_i fs hk
    split at h
    · rename_i k2 hf
      split at h
      · rename_i hc
        cases h
        obtain ⟨xs, m, _, _, hl, hlen, hfs⟩ := DataW.trod_struct hk hx
        have := flatFields_trod (flat_trod n) fs.toList 0 _ hf (fun f hfm => by
         obtain ⟨i, hi, e⟩ := List.getElem_of_mem hfm
         have hi' : i < xs.length := by rw [hlen]; simpa using hi
         have h5 := hfs i f (by rw [← e]; simp)
         rw [List.getElem?_eq_getElem hi'] at h5
         exact ⟨_, _, h5⟩)
        rw [List.drop_zero, List.take_of_length_le (by omega)] at this
        exact this
      · cases h
    · cases h
  · cases h
end
end
end
end Go.Proofs.Sky
namespace Go.Proofs.YtbmpmjdlaahekaaGreat
section
open Go.RowKit Go.Proofs.Sky
theorem z0m {k : IntKind} {a b : Int} (h : a = b) : Ending.returned (.int k a) = .returned (.int k b) := by rw [h]
theorem num_clampI (n a b : Int) (w : World) :
  Calls prog 126 #[n, a, b] w fun e w' => e = .returned (.int .i64 (hold n a b)) ∧ w = w' := by
 go_enter func126, ntmps126
 go_wp2
 all_goals (go_ret; exact ⟨z0m (by unfold hold; (repeat' split) <;> omega), rfl⟩)
theorem num_clampU (n a b : Int) (w : World) :
  Calls prog 108 #[.int .u64 n, .int .u64 a, .int .u64 b] w fun e w' => e = .returned (.int .u64 (hold n a b)) ∧ w = w' := by
 go_enter func108, ntmps108
 go_wp2
 all_goals (go_ret; exact ⟨z0m (by unfold hold; (repeat' split) <;> omega), rfl⟩)
theorem num_Plus (a b : Int) (w : World) (ha : I64 a) (hb : I64 b) :
  Calls prog 104 #[a, b] w fun e w' => e = .returned (.int .i64 (sat (a + b))) ∧ w = w' := by
 obtain ⟨a1, a2⟩ := ha; obtain ⟨b1, b2⟩ := hb
 go_enter func104, ntmps104
 go_wp2_with (go_at_call 126; refine (num_clampI _ _ _ _).mono ?_; rintro e w' ⟨rfl, rfl⟩)
 all_goals (go_ret; exact ⟨z0m (by unfold hold sat; unfold wrap64; (repeat' split) <;> omega), rfl⟩)
theorem num_magnitude (a : Int) (w : World) (ha : I64 a) :
  Calls prog 107 #[a] w fun e w' => e = .returned (.int .u64 (a.natAbs : Int)) ∧ w = w' := by
 obtain ⟨a1, a2⟩ := ha
 go_enter func107, ntmps107
 go_wp2
 · go_ret; exact ⟨z0m (by rw [u64w, u64w]; omega), rfl⟩
 · go_ret; exact ⟨z0m (by omega), rfl⟩
theorem Mul64 (x y : Nat) (w : World) (hx : x < 18446744073709551616) (hy : y < 18446744073709551616) :
  Calls prog 106 #[.int .u64 x, .int .u64 y] w fun e w' => e = .returned (.tuple #[.int .u64 ((x * y / 18446744073709551616 : Nat) : Int), .int .u64 ((x * y % 18446744073709551616 : Nat) : Int)]) ∧ w = w' :=
 (Tryz.bits_Mul64 x y hx hy w).mono fun e w' ⟨h1, h2⟩ => ⟨h1, h2.symm⟩
theorem num_Times (a b : Int) (w : World) (ha : I64 a) (hb : I64 b) :
  Calls prog 77 #[a, b] w fun e w' => e = .returned (.int .i64 (sat (a * b))) ∧ w = w' := by
 go_enter func77, ntmps77
 go_wp2_with (first
  | (go_at_call 107; refine (num_magnitude _ _ (by assumption)).mono ?_; rintro e w' ⟨rfl, rfl⟩)
  | (go_at_call 106; refine (Mul64 _ _ _ (by unfold I64 at *; omega) (by unfold I64 at *; omega)).mono ?_; rintro e w' ⟨rfl, rfl⟩)
  | (go_at_call 108; refine (num_clampU _ _ _ _).mono ?_; rintro e w' ⟨rfl, rfl⟩))
 all_goals
  go_ret
  refine ⟨z0m ?_, rfl⟩
  have hp : 0 ≤ (a.natAbs : Int) * (b.natAbs : Int) := Int.mul_nonneg (by omega) (by omega)
  first
   | have ho := mul_opp (sgn_opp (by assumption)); rw [ho]
   | have ho := mul_same (sgn_same (by assumption)); rw [ho]
  clear ho
  generalize (a.natAbs : Int) * (b.natAbs : Int) = p at *
  unfold hold sat wrap64
  try rw [u64w]
  (repeat' split) <;> omega
end
section
open Go.RowKit Go.Proofs.Sky
theorem Len64 (x : Int) (w : World) (h : U64 x) :
  Calls prog 162 #[.int .u64 x] w fun e w' => e = .returned (.int .i64 (Lib.bitLen x.toNat : Int)) ∧ w = w' :=
 (Tryz.bits_Len64 x w h.1 h.2).mono fun e w' ⟨h1, h2⟩ => ⟨h1, h2.symm⟩
theorem bitLen_lt (n : Nat) (h : n < 18446744073709551616) : Lib.bitLen n ≤ 64 ∧ n < 2 ^ Lib.bitLen n := by
 refine ⟨Lib.bitLen_le n 64 (Nat.le_refl _) h, ?_⟩
 by_cases h0 : n = 0
 · subst h0; decide
 · exact (Lib.bitLenAux_bounds 64 n h h0).2.2
theorem num_Root (n : Nat) (w : World) (hn : n < 18446744073709551616) :
  Calls prog 157 #[.int .u64 n] w fun e w' => e = .returned (.int .i64 (isq n : Int)) ∧ w = w' := by
 obtain ⟨hl, hs⟩ := bitLen_lt n hn
 have H := zh (RootInv.start hl hs)
 have hp : 2 ^ ((Lib.bitLen n + 1) / 2) ≤ 2 ^ 32 := Nat.pow_le_pow_right (by omega) (by omega)
 have HP := zh hp
 clear hs hp
 go_enter func157, ntmps157
 go_wp2_with (go_at_call 162; refine (Len64 _ _ (by unfold U64; omega)).mono ?_; rintro e w' ⟨rfl, rfl⟩)
 go_loop [3, 4] (fun u v => ∃ m r b : Nat, RootInv n m r b ∧ u = .int .u64 r ∧ v = .int .u64 b) (fun _ v => (intOf v).toNat)
 case atStart =>
  refine ⟨_, 0, _, H.out, rfl, ?_⟩
  have := HP.out
  rw [u64w]
  have e : ((2 : Int) ^ ((Lib.bitLen n + 1) / 2)) = ((2 ^ ((Lib.bitLen n + 1) / 2) : Nat) : Int) := by rw [Int.natCast_pow]; rfl
  rw [e]
  generalize 2 ^ ((Lib.bitLen n + 1) / 2) = p at this ⊢
  exact congrArg _ (by omega)
 case round =>
  obtain ⟨m, r, b, hi, rfl, rfl⟩ := hrel
  by_cases hb : 0 < b
  · obtain ⟨k, rfl, eb, ho, hlt, hsq⟩ := hi.split hb
    have HB := zh eb; clear eb
    have hw : bits .or .u64 (r : Int) (b : Int) = (r : Int) + (b : Int) := by rw [u64_or_nat r b (by omega) (by omega), ho]; simp
    have hx : IntKind.u64.wrap (((r : Int) + (b : Int)) * ((r : Int) + (b : Int))) = ((r : Int) + (b : Int)) * ((r : Int) + (b : Int)) := by
     rw [u64w, ← Int.natCast_add, ← Int.natCast_mul]; omega
    clear ho hsq
    go_wp2
    · have g : ((r : Int) + (b : Int)) * ((r : Int) + (b : Int)) ≤ n := by assumption
      rw [← Int.natCast_add, ← Int.natCast_mul] at g
      go_round
      case rel => exact ⟨k, r + b, b / 2, hi.yes HB.out (by omega), by go_num, by go_num⟩
      case measure => simp [intOf]; omega
    · have g : (n : Int) < ((r : Int) + (b : Int)) * ((r : Int) + (b : Int)) := by assumption
      rw [← Int.natCast_add, ← Int.natCast_mul] at g
      go_round
      case rel => exact ⟨k, r, b / 2, hi.no HB.out (by omega), rfl, by go_num⟩
      case measure => simp [intOf]; omega
  · obtain rfl : b = 0 := by omega
    have E := zh hi.done
    have hr : r ≤ 4294967296 := Nat.le_trans (Nat.le_add_right _ _) hi.2.2.2.2
    go_wp2
    go_ret
    exact ⟨z0m (by rw [E.out]), rfl⟩
end
end Go.Proofs.YtbmpmjdlaahekaaGreat
namespace Go.Proofs.Sky
section
open Go.RowKit
def fless (n d m e : Int) : Bool := decide (1 ≤ d) && (decide (1 ≤ e) && decide (n * e < m * d))
def fsame (n d m e : Int) : Bool := decide (1 ≤ d) && (decide (1 ≤ e) && decide (n * e = m * d))
def fmakeOk (n d : Int) : Bool := decide (d ≠ 0 ∧ n ≠ -9223372036854775808 ∧ d ≠ -9223372036854775808)
def fmake (n d : Int) : Int × Int := if fmakeOk n d = true then (if d < 0 then (-n, -d) else (n, d)) else (0, 0)
theorem mul_W128 {a b : Int} (ha : I64 a) (hb : I64 b) : W128 (a * b) := by
 unfold I64 at ha hb; unfold W128
 have h : (a * b).natAbs ≤ 9223372036854775808 * 9223372036854775808 := by
  rw [Int.natAbs_mul]; exact Nat.mul_le_mul (by omega) (by omega)
 omega
theorem cmpI_lt (x y : Int) : decide (cmpI x y < 0) = decide (x < y) := by
 unfold cmpI; split <;> (try split) <;> simp <;> omega
theorem cmpI_eq (x y : Int) : decide (cmpI x y = 0) = decide (x = y) := by
 unfold cmpI; split <;> (try split) <;> simp <;> omega
theorem cmpI_beq (x y : Int) : (cmpI x y == 0) = decide (x = y) := by
 rw [← cmpI_eq]; by_cases h : cmpI x y = 0 <;> simp [h]
end
section
open Go.RowKit
theorem Bk.put3 {w : World} {g : Nat} {t : TypeId} {a b c : Value} (h : Bk w g t #[a, b, c]) (u v x : Value) :
  (((w.setCell ⟨g, 0, none⟩ u).setCell ⟨g, 1, none⟩ v).setCell ⟨g, 2, none⟩ x).cell? ⟨g, 0, none⟩ = some u ∧
  (((w.setCell ⟨g, 0, none⟩ u).setCell ⟨g, 1, none⟩ v).setCell ⟨g, 2, none⟩ x).cell? ⟨g, 1, none⟩ = some v ∧
  (((w.setCell ⟨g, 0, none⟩ u).setCell ⟨g, 1, none⟩ v).setCell ⟨g, 2, none⟩ x).cell? ⟨g, 2, none⟩ = some x ∧
  Bk (((w.setCell ⟨g, 0, none⟩ u).setCell ⟨g, 1, none⟩ v).setCell ⟨g, 2, none⟩ x) g t #[u, v, x] := by
 have k : Bk (((w.setCell ⟨g, 0, none⟩ u).setCell ⟨g, 1, none⟩ v).setCell ⟨g, 2, none⟩ x) g t #[u, v, x] := ((h.set 0 u).set 1 v).set 2 x
 exact ⟨k.cell rfl, k.cell rfl, k.cell rfl, k⟩
theorem z04 {wb w1 : World} {p : BW wb} (hb : Below p.w.heap.size p.w w1) : ∃ q : BW wb, w1 = q.w := ⟨p.next w1 hb, rfl⟩
theorem z08 {wb w1 : World} {p : BW wb} (hb : Below p.w.drew.heap.size p.w.drew w1) : ∃ q : BW wb, w1 = q.w := ⟨p.next w1 ⟨hb.os, hb.tape, hb.output, hb.size, hb.block⟩, rfl⟩
end
end Go.Proofs.Sky
