/- Plain mathematics of a division of 128 bits by 64 bits, digit by digit -/
import Derived.Deep.QuietTactic
import Derived.RangeFuncNested
import Derived.RangeFuncBox
import Derived.RangeFuncLeaves
import Derived.Test.YtbmpmjdlaahekaaGreatWs13
import Derived.Deep.MidRow
import Derived.Laws.CopyRow
import Derived.Deep.WholeRow
import Derived.Maps.AppendAt
import Derived.OwnWalk
import Derived.Lib.MinMax
import Derived.Deep.DeepCutAuto
set_option maxRecDepth 100000
set_option maxHeartbeats 8000000
set_option linter.unusedVariables false
set_option linter.unusedSimpArgs false
open Go.Proofs.Tryz
namespace Go.Proofs.Sky
section
section
def KD (A B U V q r : Nat) : Prop := q * A + r = U ∧ (U * 4294967296 + V) / (A * 4294967296 + B) ≤ q ∧ r < 4294967296 ∧ q ≤ 4294967297
variable {A B U V q r : Nat}
structure KN (hi lo y s Y A B U V V1 V0 : Nat) : Prop where
 hY : Y = y * 2 ^ s
 hYl : Y < 18446744073709551616
 hA : 2147483648 ≤ A
 hA' : A < 4294967296
 hB : B < 4294967296
 hAB : Y = A * 4294967296 + B
 hU : U < Y
 hV : V = V1 * 4294967296 + V0
 hV1 : V1 < 4294967296
 hV0 : V0 < 4294967296
 hN : U * 18446744073709551616 + V = (hi * 18446744073709551616 + lo) * 2 ^ s
 e1 : IntKind.u64.wrap ((y : Int) * 2 ^ s) = (Y : Int)
 e2 : (Y : Int) / 4294967296 = (A : Int)
 e3 : bits .and .u64 (Y : Int) 4294967295 = (B : Int)
 e6 : bits .or .u64 (IntKind.u64.wrap ((hi : Int) * 2 ^ s)) ((lo : Int) / 2 ^ (64 - s)) = (U : Int)
 e7 : IntKind.u64.wrap ((lo : Int) * 2 ^ s) = (V : Int)
 e8 : (V : Int) / 4294967296 = (V1 : Int)
 e9 : bits .and .u64 (V : Int) 4294967295 = (V0 : Int)
theorem and32 (n : Nat) (h : n < 18446744073709551616) : bits .and .u64 (n : Int) 4294967295 = ((n % 4294967296 : Nat) : Int) := by
 have e := u64_and_nat n 4294967295 h (by decide)
 have : n &&& 4294967295 = n % 4294967296 := Nat.and_two_pow_sub_one_eq_mod n 32
 rw [this] at e; exact e
theorem shl64 (n s : Nat) : IntKind.u64.wrap ((n : Int) * 2 ^ s) = ((n * 2 ^ s % 18446744073709551616 : Nat) : Int) := by
 rw [u64w]; simp
structure KO (Y A B U V Q R q r P : Nat) : Prop where
 hQ : Q = (U * 4294967296 + V) / Y
 hR : R = (U * 4294967296 + V) % Y
 hQl : Q < 4294967296
 hRl : R < Y
 e10 : (U : Int) / (A : Int) = (q : Int)
 e11 : IntKind.u64.wrap ((q : Int) * (A : Int)) = (P : Int)
 e12 : (U : Int) - (P : Int) = (r : Int)
 e13 : IntKind.u64.wrap (IntKind.u64.wrap (IntKind.u64.wrap ((U : Int) * 4294967296) + (V : Int)) - IntKind.u64.wrap ((Q : Int) * (Y : Int))) = (R : Int)
 hk : KD A B U V q r
 hq : q ≤ 4294967297
 hr : r ≤ U
end
end
end Go.Proofs.Sky
namespace Go.Proofs.YtbmpmjdlaahekaaGreat
section
section
open Go.RowKit Go.Proofs.Sky
end
end
end Go.Proofs.YtbmpmjdlaahekaaGreat
namespace Go.Proofs.Sky
section
open Go.RowKit
def Stays {β : Type} (J : β → World → Prop) : Prop := ∀ s X Y, J s X → Below X.heap.size X Y → J s Y
def GivesAll {α : Type} (P : Program) (gf : Nat) (bd lb : Array Value) (encs : α → Array Value) (xs : List α) (B : Nat) (w : World) : Prop :=
 ∀ (l : Nat) (J : List α → World → Prop) (W : World), Below w.heap.size w W → Stays J →
  (∀ pre x rest W1, xs = pre ++ x :: rest → J pre W1 → YieldAt Fence.wide 0 P l (encs x) W1 fun e W' => e = .returned (.bool true) ∧ J (pre ++ [x]) W' ∧ Below B W1 W') →
  J [] W → CallsIn Fence.wide 0 P gf ((bd ++ #[.func (.yield l) #[] #[]]) ++ lb) W fun e W' => (∃ v, e = .returned v) ∧ J xs W'
theorem grown_of_below {X Y : World} (h : Below X.heap.size X Y) : X.grownBy Y none := ⟨h.os, h.tape, h.output, h.size, fun k hk _ => h.block k hk⟩
end
section
open Go.RowKit
end
section
open Go.RowKit
def pk (N D : Nat → Int) (m x : Nat) : Nat := if N x * D m < N m * D x then x else m
end
end Go.Proofs.Sky
namespace Go.Proofs.YtbmpmjdlaahekaaGreat
section
open Go.RowKit Go.Proofs.Sky
def VcRow (w : World) (b off n : Nat) (V : Nat → T3) : Prop :=
 ∀ i, i < n → w.cell? ⟨b, off + i * 3, none⟩ = some (.int .i64 (V i).1) ∧ w.cell? ⟨b, off + i * 3 + 1, none⟩ = some (.int .i64 (V i).2.1) ∧ w.cell? ⟨b, off + i * 3 + 2, none⟩ = some (.int .i64 (V i).2.2)
end
end Go.Proofs.YtbmpmjdlaahekaaGreat
namespace Go.Proofs.Sky
section
open Go.RowKit
def hAt (P : Nat → Pr) (n : Nat) (o d : T3) (fr : Int) (z : Int) : List H3 := if 0 ≤ z ∧ z < n then hitAt (P z.toNat) z.toNat o d fr else []
def hOver (P : Nat → Pr) (n : Nat) (o d : T3) (fr : Int) (zs : List Int) : List H3 := zs.flatMap (hAt P n o d fr)
def rowOf (Z : Nat → Int) (n : Nat) : List Int := (List.range n).map Z
def stepH (b : H3 × Bool) (x : H3) : H3 × Bool := if b.2 = false ∨ hb x b.1 = true then (x, true) else b
def pFirst (l : List H3) : H3 × Bool := l.foldl stepH ((0, 0, 0), false)
theorem hOver_snoc (P : Nat → Pr) (n : Nat) (o d : T3) (fr : Int) (pre : List Int) (x : Int) : hOver P n o d fr (pre ++ [x]) = hOver P n o d fr pre ++ hAt P n o d fr x := by
 unfold hOver; rw [List.flatMap_append]; simp
theorem hOver_split (P : Nat → Pr) (n : Nat) (o d : T3) (fr : Int) (pre rest : List Int) (x : Int) : hOver P n o d fr (pre ++ x :: rest) = hOver P n o d fr pre ++ (hAt P n o d fr x ++ hOver P n o d fr rest) := by
 unfold hOver; rw [List.flatMap_append, List.flatMap_cons]
theorem hAt_out {P : Nat → Pr} {n : Nat} {o d : T3} {fr z : Int} (h : z < 0 ∨ (n : Int) ≤ z) : hAt P n o d fr z = [] := by
 unfold hAt; rw [if_neg (by omega)]
theorem hAt_in {P : Nat → Pr} {n : Nat} {o d : T3} {fr : Int} {k : Nat} (h : k < n) : hAt P n o d fr (k : Int) = hitAt (P k) k o d fr := by
 unfold hAt; rw [if_pos (by omega)]; simp
theorem rowOf_succ (Z : Nat → Int) (k : Nat) : rowOf Z (k + 1) = rowOf Z k ++ [Z k] := by
 unfold rowOf; rw [List.range_succ, List.map_append]; rfl
theorem rowOf_len (Z : Nat → Int) (k : Nat) : (rowOf Z k).length = k := by unfold rowOf; simp
theorem rowOf_split (Z : Nat → Int) (n k : Nat) (h : k < n) : ∃ rest, rowOf Z n = rowOf Z k ++ Z k :: rest := by
 refine ⟨(rowOf Z n).drop (k + 1), ?_⟩
 have hl : k < (rowOf Z n).length := by rw [rowOf_len]; exact h
 have e1 : (rowOf Z n).take k = rowOf Z k := by
  unfold rowOf
  rw [← List.map_take, List.take_range, Nat.min_eq_left (by omega)]
 have e2 : (rowOf Z n)[k] = Z k := by
  have : (rowOf Z n)[k]? = some (Z k) := by unfold rowOf; simp [h]
  rw [List.getElem?_eq_getElem hl] at this
  exact Option.some.inj this
 rw [← e1, ← e2, ← List.drop_eq_getElem_cons hl, List.take_append_drop]
theorem hOver_mem {P : Nat → Pr} {n : Nat} {o d : T3} {fr : Int} {zs : List Int} {x : H3} : x ∈ hOver P n o d fr zs ↔ x ∈ hUp P n o d fr ∧ x.1 ∈ zs := by
 unfold hOver hUp
 rw [List.mem_flatMap, List.mem_flatMap]
 constructor
 · rintro ⟨z, hz, hx⟩
   unfold hAt at hx
   split at hx
   · rename_i g
     refine ⟨⟨z.toNat, List.mem_range.2 (by omega), hx⟩, ?_⟩
     unfold hitAt at hx
     split at hx
     · have : x = ((z.toNat : Int), (pHit (P z.toNat) z.toNat o d fr).1) := by simpa using hx
       rw [this]
       dsimp only
       rw [show ((z.toNat : Nat) : Int) = z by omega]
       exact hz
     · simp at hx
   · simp at hx
 · rintro ⟨⟨i, hi, hx⟩, hz⟩
   have hin := List.mem_range.1 hi
   have e : x.1 = (i : Int) := by
    unfold hitAt at hx
    split at hx
    · have : x = ((i : Int), (pHit (P i) i o d fr).1) := by simpa using hx
      rw [this]
    · simp at hx
   exact ⟨x.1, hz, by rw [e, hAt_in hin]; exact hx⟩
theorem pFirst_snoc (l : List H3) (x : H3) : pFirst (l ++ [x]) = stepH (pFirst l) x := by unfold pFirst; rw [List.foldl_append]; rfl
theorem pFirst_in : ∀ n (l : List H3), l.length = n → (pFirst l).1 ∈ l ∨ (pFirst l).1 = (0, 0, 0)
 | 0, l, hn => by rw [List.length_eq_zero_iff.1 hn]; exact .inr rfl
 | n + 1, l, hn => by
  have hne : l ≠ [] := fun e => by rw [e] at hn; simp at hn
  obtain ⟨m, x, rfl⟩ : ∃ m x, l = m ++ [x] := ⟨l.dropLast, l.getLast hne, (List.dropLast_concat_getLast hne).symm⟩
  rw [pFirst_snoc]
  unfold stepH
  split
  · exact .inl (by simp)
  · rcases pFirst_in n m (by simp at hn; omega) with h | h
    · exact .inl (by simp [h])
    · exact .inr h
theorem pFirst_I64 {l : List H3} (h : ∀ x ∈ l, I64 x.1 ∧ I64 x.2.1 ∧ I64 x.2.2) : I64 (pFirst l).1.1 ∧ I64 (pFirst l).1.2.1 ∧ I64 (pFirst l).1.2.2 := by
 rcases pFirst_in _ l rfl with g | g
 · exact h _ g
 · rw [g]; refine ⟨?_, ?_, ?_⟩ <;> (unfold I64; dsimp only; omega)
theorem stepH_none (f x : H3) : stepH (f, false) x = (x, true) := by unfold stepH; rw [if_pos (.inl rfl)]
theorem stepH_yes {f x : H3} (h : hb x f = true) : stepH (f, true) x = (x, true) := by unfold stepH; rw [if_pos (.inr h)]
theorem stepH_no {f x : H3} (h : hb x f = false) : stepH (f, true) x = (f, true) := by unfold stepH; rw [if_neg (by simp [h])]
theorem pFirst_spec : ∀ n (l : List H3), l.length = n → (∀ x ∈ l, Hok x) → (l = [] ∧ pFirst l = ((0, 0, 0), false)) ∨ (l ≠ [] ∧ (pFirst l).2 = true ∧ (pFirst l).1 ∈ l ∧ hBest l (pFirst l).1 = true)
 | 0, l, hn, _ => .inl ⟨List.length_eq_zero_iff.1 hn, by rw [List.length_eq_zero_iff.1 hn]; rfl⟩
 | n + 1, l, hn, hok => by
  right
  have hne : l ≠ [] := fun e => by rw [e] at hn; simp at hn
  refine ⟨hne, ?_⟩
  obtain ⟨m, x, rfl⟩ : ∃ m x, l = m ++ [x] := ⟨l.dropLast, l.getLast hne, (List.dropLast_concat_getLast hne).symm⟩
  have hl : m.length = n := by simp at hn; omega
  have okm : ∀ y ∈ m, Hok y := fun y hy => hok y (by simp [hy])
  have okx : Hok x := hok x (by simp)
  rw [pFirst_snoc]
  rcases pFirst_spec n m hl okm with ⟨rfl, e⟩ | ⟨hm, h1, h2, h3⟩
  · rw [e]
    unfold stepH
    rw [if_pos (.inl rfl)]
    refine ⟨rfl, by simp, ?_⟩
    rw [z11]
    intro y hy
    have : y = x := by simpa using hy
    rw [this]; exact hb_irrefl okx
  · rw [z11] at h3
    unfold stepH
    generalize pFirst m = f at *
    obtain ⟨f, ok⟩ := f
    dsimp only at h1 h2 h3 ⊢
    subst h1
    cases hj : hb x f with
    | true =>
     rw [if_pos (.inr rfl)]
     refine ⟨rfl, by simp, ?_⟩
     rw [z11]
     intro y hy
     dsimp only
     rcases List.mem_append.1 hy with hy | hy
     · cases g : hb y x with
       | false => rfl
       | true =>
        have := hb_trans (okm y hy) okx (okm f h2) g hj
        rw [h3 y hy] at this
        cases this
     · have : y = x := by simpa using hy
       rw [this]; exact hb_irrefl okx
    | false =>
     rw [if_neg (by simp)]
     refine ⟨rfl, by simp [h2], ?_⟩
     rw [z11]
     intro y hy
     dsimp only
     rcases List.mem_append.1 hy with hy | hy
     · exact h3 y hy
     · have : y = x := by simpa using hy
       rw [this]; exact hj
theorem pFirst_same {l m : List H3} (hok : ∀ x ∈ m, Hok x) (hu : ∀ x ∈ m, ∀ y ∈ m, x.1 = y.1 → x = y) (hs : ∀ x, x ∈ l ↔ x ∈ m) : pFirst l = hFirst m := by
 rcases pFirst_spec _ l rfl (fun x hx => hok x ((hs x).1 hx)) with ⟨rfl, e⟩ | ⟨hl, h1, h2, h3⟩
 · have : m = [] := by
    cases m with
    | nil => rfl
    | cons y m => exact absurd ((hs y).2 (by simp)) (by simp)
   rw [e, this]; rfl
 · rw [hFirst_unique hok hu ((hs _).1 h2) (by rw [z11] at h3 ⊢; exact fun y hy => h3 y ((hs y).2 hy)), ← h1]
theorem hSome_mem {l : List H3} {Z : Nat → Int} {m : Nat} {x : H3} : x ∈ hSome l Z m ↔ x ∈ l ∧ x.1 ∈ rowOf Z m := by
 unfold hSome hSel rowOf
 simp only [List.mem_flatMap, List.mem_range, List.mem_map]
 constructor
 · rintro ⟨h, hh, k, hk, hx⟩
   split at hx
   · rename_i e
     have : x = h := by simpa using hx
     subst this
     exact ⟨hh, k, hk, e⟩
   · simp at hx
 · rintro ⟨hx, k, hk, e⟩
   exact ⟨x, hx, k, hk, by rw [if_pos e]; simp⟩
theorem pFirst_among (P : Nat → Pr) (n : Nat) (o d : T3) (fr : Int) (Z : Nat → Int) (m : Nat) : pFirst (hOver P n o d fr (rowOf Z m)) = hAmong P n Z m o d fr := by
 refine pFirst_same (fun x hx => ?_) (fun x hx y hy e => ?_) (fun x => ?_)
 · exact hUp_ok x (hSome_mem.1 hx).1
 · exact hUp_unique x (hSome_mem.1 hx).1 y (hSome_mem.1 hy).1 e
 · rw [hOver_mem, hSome_mem]
theorem any_none {l : List H3} {p : H3 → Bool} (h : ∀ x ∈ l, p x = false) : l.any p = false := by rw [List.any_eq_false]; intro x hx; rw [h x hx]; decide
end
section
open Go.RowKit
def nd0 : Nd := (((0, 0, 0), (0, 0, 0)), 0, 0, 0)
theorem z0g {α : Type} {l : List α} {z : α} {i : Nat} (h : i < l.length) : l.getD i z = l[i] := by
 rw [List.getD_eq_getElem?_getD, List.getElem?_eq_getElem h]; rfl
def mFrom (ns : List Nd) : Nat → Int
 | 0 => 0
 | k + 1 => if 0 < (ns.getD k nd0).2.2.1 then (ns.getD k nd0).2.1 + (ns.getD k nd0).2.2.1 else mFrom ns k
theorem z1j (ns : List Nd) (k : Nat) : mFrom ns (k + 1) = if 0 < (ns.getD k nd0).2.2.1 then (ns.getD k nd0).2.1 + (ns.getD k nd0).2.2.1 else mFrom ns k := rfl
def mThing (ns : List Nd) (m : Int) (i : Nat) : Int := (mPart ns m i (mFrom ns i)).2.1
theorem part_each {ns : List Nd} {m : Int} : ∀ (f i : Nat) (th : Int), ns.length < i + f → (mPart ns m i th).2.2.2.2 = true → mFrom ns i = th →
  mFrom ns (mPart ns m i th).1.toNat = (mPart ns m i th).2.1 ∧ ∀ j, i ≤ j → (j : Int) < (mPart ns m i th).1 → (mPart ns m j (mFrom ns j)).2.2.2.2 = true
 | 0, i, th, hf, h, _ => by rw [mPart_out (by omega)] at h; cases h
 | f + 1, i, th, hf, h, hth => by
  by_cases hi : i < ns.length
  · by_cases hc : ns[i].2.2.1 = 0
    · obtain ⟨h1, h2, h3, h4, h5, h6⟩ := mPart_two hi hc h
      have ha := mPart_in h2
      have e1 : mFrom ns (i + 1) = th := by rw [z1j, z0g hi, if_neg (by omega), hth]
      obtain ⟨a1, a2⟩ := part_each f (i + 1) th (by omega) h2 e1
      obtain ⟨b1, b2⟩ := part_each f _ _ (by omega) h4 a1
      rw [h5, h6]
      refine ⟨b1, fun j hj hlt => ?_⟩
      by_cases g0 : j = i
      · subst g0; rw [hth]; exact h
      · by_cases g1 : (j : Int) < (mPart ns m (i + 1) th).1
        · exact a2 j (by omega) g1
        · exact b2 j (by omega) hlt
    · obtain ⟨h1, h2, h3, h4, h5, h6⟩ := mPart_one hi hc h
      rw [h5, h6, show ((i : Int) + 1).toNat = i + 1 by omega]
      refine ⟨by rw [z1j, z0g hi, if_pos h1, h2], fun j hj hlt => ?_⟩
      have : j = i := by omega
      subst this; rw [hth]; exact h
  · rw [mPart_out hi] at h; cases h
theorem whole_part {ns : List Nd} {m : Int} (h : (mWhole ns m).2.2.2.2 = true) (hn : 0 < ns.length) : (mPart ns m 0 0).2.2.2.2 = true ∧ (mPart ns m 0 0).1 = ns.length ∧ (mPart ns m 0 0).2.1 = m := by
 unfold mWhole at h
 rw [if_neg (by omega)] at h
 simp only [Bool.and_eq_true, decide_eq_true_eq] at h
 exact ⟨h.1, h.2.1, h.2.2⟩
-- the least box around things
theorem bAll_gL {V : Nat → Bx} (h0 : bRight (V 0) = true) : ∀ n, 0 < n → (∀ k, k < n → bRight (V k) = true) → (bAll V n, n) = gL (fun _ => true) (bls V n)
 | 0, h, _ => by omega
 | 1, _, h => by
  show (bJoin (V 0) (V 0), 1) = gW g0 (V 0, 1)
  rw [uJoin_right h0 h0, uJoin_self]; rfl
 | n + 2, _, h => by
  have ih := bAll_gL h0 (n + 1) (by omega) (fun k hk => h k (by omega))
  have hr : bRight (bAll V (n + 1)) = true := bAll_right (n := n + 1) (fun k hk => h k (by omega)) h0 (n + 1) (Nat.le_refl _)
  rw [bAll_succ, gL_succ, ← ih]
  unfold gPut
  rw [if_pos rfl]
  unfold gW
  rw [if_neg (by simp), if_neg (by simp), uJoin_right hr (h _ (by omega))]
  rfl
def mBox (P : Nat → Pr) (ord : List Int) (k : Nat) : Bx := pBox (P (ord.getD k 0).toNat)
def mAt (P : Nat → Pr) (ord : List Int) (a b : Int) : Bx := bAll (fun k => mBox P ord (a.toNat + k)) (b - a).toNat
theorem pAll_at {P : Nat → Pr} {n k : Nat} (h : pAll P n = true) (hk : k < n) : pRight (P k) = true := by
 unfold pAll at h
 rw [List.all_eq_true] at h
 exact h k (List.mem_range.2 hk)
theorem mBox_right {P : Nat → Pr} {ord : List Int} {n k : Nat} (hP : pAll P n = true) (ho : mOnce ord n = true) (hk : k < ord.length) : bRight (mBox P ord k) = true := by
 have := mOnce_in ho k hk
 exact box_right (pAll_at hP (by omega))
def mBoxes (ns : List Nd) (P : Nat → Pr) (ord : List Int) : Nat → Bool
 | 0 => true
 | k + 1 => mBoxes ns P ord k && decide ((ns.getD k nd0).1 = mAt P ord (mFrom ns k) (mThing ns ord.length k))
theorem mBoxes_succ (ns : List Nd) (P : Nat → Pr) (ord : List Int) (k : Nat) : mBoxes ns P ord (k + 1) = (mBoxes ns P ord k && decide ((ns.getD k nd0).1 = mAt P ord (mFrom ns k) (mThing ns ord.length k))) := rfl
theorem mBoxes_iff {ns : List Nd} {P : Nat → Pr} {ord : List Int} : ∀ k, mBoxes ns P ord k = true ↔ ∀ j, j < k → (ns.getD j nd0).1 = mAt P ord (mFrom ns j) (mThing ns ord.length j)
 | 0 => ⟨fun _ j hj => by omega, fun _ => rfl⟩
 | k + 1 => by
  rw [mBoxes_succ, Bool.and_eq_true, mBoxes_iff k, decide_eq_true_eq]
  constructor
  · rintro ⟨h1, h2⟩ j hj
    by_cases e : j = k
    · subst e; exact h2
    · exact h1 j (by omega)
  · intro h
    exact ⟨fun j hj => h j (by omega), h k (by omega)⟩
def mWh (ns : List Nd) (P : Nat → Pr) (ord : List Int) (n : Nat) : Bool :=
 (mWhole ns ord.length).2.2.2.2 && (pAll P n && (mOnce ord n && mBoxes ns P ord ns.length))
end
section
open Go.RowKit
end
end Go.Proofs.Sky
namespace Go.Proofs.YtbmpmjdlaahekaaGreat
section
open Go.RowKit Go.Proofs.Sky
def bcells (b : Bx) : List Value := [.int .i64 b.1.1, .int .i64 b.1.2.1, .int .i64 b.1.2.2, .int .i64 b.2.1, .int .i64 b.2.2.1, .int .i64 b.2.2.2]
def Boxes (w : World) (v : Value) (n : Nat) (V : Nat → Bx) : Prop := Sl w v n 6 (fun i => bcells (V i))
theorem Boxes.below {w w' : World} {B : Nat} {v : Value} {n : Nat} {V : Nat → Bx} (h : Boxes w v n V) (hb : Below B w w') (hB : w.heap.size ≤ B) : Boxes w' v n V := Sl.below h hb hB
section
variable {K : Act → World → Prop} {Q : Exit → Act → World → Prop} {a : Act} {w : World} {dst : Option Nat} {tz : TypeId} {ps : String} {af : Array Edge} {gd : Option (Nat × Bool)} {x y : Operand} {g : Nat} {t : TypeId} {G H : Nat → Gp}
end
section
variable {K : Act → World → Prop} {Q : Exit → Act → World → Prop} {a : Act} {w : World} {dst : Option Nat} {tz : TypeId} {ps : String} {af : Array Edge} {gd : Option (Nat × Bool)} {x y : Operand} {g : Nat} {t : TypeId} {G H : Nat → Gp}
end
section
variable {K : Act → World → Prop} {Q : Exit → Act → World → Prop} {a : Act} {w : World} {dst : Option Nat} {tz : TypeId} {ps : String} {af : Array Edge} {gd : Option (Nat × Bool)} {x y : Operand} {g : Nat} {t : TypeId} {G H : Nat → Gp} {c : Array Value}
end
def Ints (w : World) (B : Nat) (v : Value) (l : List Nat) : Prop := w.ownsRow B 3 1 v l.length (l.map (fun k : Nat => Value.int .i64 (k : Int)))
theorem Ints.below {w w' : World} {B : Nat} {v : Value} {l : List Nat} (h : Ints w B v l) (hb : Below w.heap.size w w') : Ints w' B v l := z07 h hb
theorem ints_alloc {w W : World} {B : Nat} {v : Value} {l : List Nat} {o : Obj} (hW : W = w.alloc o) (h : Ints w B v l) : Ints W B v l := by
 subst hW; exact World.ownsRow.alloc h o
theorem Ints.mono {w : World} {B C : Nat} {v : Value} {l : List Nat} (h : Ints w B v l) (hC : C ≤ B) : Ints w C v l := z1f h hC
theorem z14 {w w' : World} {B : Nat} {e : TypeId} {size n : Nat} {v : Value} {xs : List Value} {row : Option Nat} (h : w.ownsRow B e size v n xs) (hg : w.grownBy w' row) (hne : ∀ j, v.ownBlock = some j → row ≠ some j) : w'.ownsRow B e size v n xs := by
 obtain ⟨hl, h⟩ := h
 refine ⟨hl, ?_⟩
 rcases h with h | ⟨g, cap, cur, e1, hB, hg', rest⟩
 · exact .inl h
 · have hlt := (Array.getElem?_eq_some_iff.1 hg').1
   exact .inr ⟨g, cap, cur, e1, hB, (hg.block g hlt (fun e2 => hne g (by rw [e1]; rfl) e2.symm)).trans hg', rest⟩
theorem Ints.slice {w : World} {B : Nat} {v : Value} {l : List Nat} (h : Ints w B v l) (hk : ∀ k ∈ l, k ≤ 1048576) : ∃ (o : Option Addr) (cap : Nat), v = .slice o l.length cap ∧ IntSlice w o l.length (fun i => ((l.getD i 0 : Nat) : Int)) := by
 obtain ⟨hl, h⟩ := h
 rcases h with ⟨rfl, hz⟩ | ⟨g, cap, cur, rfl, hB, hg, hn, hms, hs, hx⟩
 · exact ⟨none, 0, by rw [hz], .inl hz⟩
 · refine ⟨_, cap, rfl, .inr ⟨g, 0, rfl, fun k hlt => ?_, (Array.getElem?_eq_some_iff.1 hg).1⟩⟩
   have e : l.getD k 0 = l[k] := by rw [List.getD_eq_getElem?_getD, List.getElem?_eq_getElem hlt]; rfl
   have e1 : (l.map (fun k : Nat => Value.int .i64 (k : Int)))[k]? = some (.int .i64 ((l[k] : Nat) : Int)) := by rw [List.getElem?_map, List.getElem?_eq_getElem hlt]; rfl
   refine ⟨?_, ?_⟩
   · rw [← hx, List.getElem?_take, if_pos (by omega)] at e1
     show w.cell? ⟨g, 0 + k, none⟩ = some (.int .i64 ((l.getD k 0 : Nat) : Int))
     rw [Nat.zero_add, e]
     simp only [World.cell?, hg]
     simpa using e1
   · have := hk _ (List.getElem_mem hlt)
     rw [← e] at this
     dsimp only
     unfold I64
     omega
theorem z06 {P : Program} {w : World} {ops : Array Oper} {rest : List Oper} {o : Oper} {a : Act} {Q : Exit → Act → World → Prop} (hgd : o.guard = none) (s x : Operand) (t : TypeId)
  (ho : o.op = .call { callee := .builtin .append, args := #[s, x], argTypes := #[t, t] })
  (base : Nat) (e : TypeId) (i : TypeInfo) (z : Value) (size bytes : Nat) (ht : P.underlying t = some (.slice e)) (hi : P.info? e = some i) (hz : i.zero = some z)
  (hsize : i.size = size) (hby : i.bytes = bytes) (hzs : z.cells.size = size) (hsz : 0 < size)
  (v : Value) (n : Nat) (xs : List Value) (hs : a.eval s = v) (hown : w.ownsRow base e size v n xs)
  (ad : Addr) (m c : Nat) (news : List Value) (hx : a.eval x = .slice (some ad) m c) (hl : news.length = m * size) (hnews : ∀ j u, news[j]? = some u → w.cell? (ad.add j) = some u) (h1 : ∀ u ∈ news, u.oneCell' = true)
  (h63 : n + m ≤ maxLen) (hbytes : (n + m) * bytes ≤ 140737488355328) (hbase : base ≤ w.heap.size)
  (h : ∀ v' w', w'.ownsRow base e size v' (n + m) (xs ++ news) → w.grownBy w' v.ownBlock → (v'.ownBlock = v.ownBlock ∨ v'.ownBlock = some w.heap.size) → wpList P ops Q rest (a.put o.dst v') w') : wpList P ops Q (o :: rest) a w :=
 wpList_plain hgd fun K hK => by
  obtain ⟨v', w', hr, h2, h3, h4, h5⟩ := run_append_own_at (P := P) w base t o.type e i z size bytes ht hi hz hsize hby hzs hsz v n xs hown ad m c news hl hnews h1 h63 hbytes hbase
  unfold Oper.wp
  simp [execOp, ho, resolve, invoke, builtin, hs, hx, hr, Result.andThen]
  exact hK _ _ (h v' w' h2 h3 h5)
def Apart2 (u v : Value) : Prop := ∀ j, u.ownBlock = some j → v.ownBlock ≠ some j
theorem z1i : (Tryz.prog.info? 3).map (fun i => (i.zero, i.size, i.bytes)) = some (some (.int .i64 0), 1, 8) := by kernel_rfl
theorem Ints.put {w w' : World} {B k : Nat} {u u' v : Value} {l m : List Nat} (hu' : w'.ownsRow B 3 1 u' (l.length + 1) (l.map (fun k : Nat => Value.int .i64 (k : Int)) ++ [.int .i64 (k : Int)])) (hv : Ints w B v m) (hap : Apart2 u v) (hg : w.grownBy w' u.ownBlock) (hb : u'.ownBlock = u.ownBlock ∨ u'.ownBlock = some w.heap.size) :
  Ints w' B u' (l ++ [k]) ∧ Ints w' B v m ∧ Apart2 u' v := by
 refine ⟨?_, z14 hv hg (fun j hj e => hap j e hj), fun j hj e => ?_⟩
 · unfold Ints
   rw [List.length_append, List.map_append]
   exact hu'
 · rcases hb with hb | hb
   · rw [hb] at hj; exact hap j hj e
   · rw [hb] at hj
     cases hj
     have := (World.ownsRow.lt hv _ e).2
     omega
theorem Apart2.symm {u v : Value} (h : Apart2 u v) : Apart2 v u := fun j hj e => h j e hj
end
section
open Go.RowKit Go.Proofs.Sky
def ncells (d : Nd) : List Value := [.int .i64 d.1.1.1, .int .i64 d.1.1.2.1, .int .i64 d.1.1.2.2, .int .i64 d.1.2.1, .int .i64 d.1.2.2.1, .int .i64 d.1.2.2.2, .int .i64 d.2.1, .int .i64 d.2.2.1, .int .i64 d.2.2.2]
def Nodes (w : World) (v : Value) (ns : List Nd) : Prop := Sll w v 9 ncells ns
theorem Nodes.below {w w' : World} {B : Nat} {v : Value} {ns : List Nd} (h : Nodes w v ns) (hb : Below B w w') (hB : w.heap.size ≤ B) : Nodes w' v ns := Sll.below h hb hB
def pv (p : Pt) : Value := .agg #[p.1, p.2.1, p.2.2.1, p.2.2.2.1, .bool p.2.2.2.2]
end
end Go.Proofs.YtbmpmjdlaahekaaGreat
namespace Go.Proofs.Sky
section
open Go.RowKit
def Covd (lim : List H3 → Int × Int) (s : List H3) (h : H3) : Prop := (∃ y ∈ s, hb h y = false) ∨ ∃ s', s' <+: s ∧ fless (lim s').1 (lim s').2 h.2.1 h.2.2 = true
theorem Covd.more {lim : List H3 → Int × Int} {s t : List H3} {h : H3} (k : Covd lim s h) (hp : s <+: t) : Covd lim t h := by
 rcases k with ⟨y, hy, e⟩ | ⟨s', h1, h2⟩
 · exact .inl ⟨y, hp.subset hy, e⟩
 · exact .inr ⟨s', h1.trans hp, h2⟩
def TCov (P : Nat → Pr) (o d : T3) (fr : Int) (lim : List H3 → Int × Int) (s : List H3) (k : Nat) : Prop := (pHit (P k) k o d fr).2 = true → Covd lim s ((k : Int), (pHit (P k) k o d fr).1)
theorem TCov.more {P : Nat → Pr} {o d : T3} {fr : Int} {lim : List H3 → Int × Int} {s t : List H3} {k : Nat} (h : TCov P o d fr lim s k) (hp : s <+: t) : TCov P o d fr lim t k := fun g => (h g).more hp
def amL (P : Nat → Pr) (n : Nat) (Z : Nat → Int) (m : Nat) (o d : T3) (fr : Int) : List H3 := if (hAmong P n Z m o d fr).2 = true then [(hAmong P n Z m o d fr).1] else []
theorem hitAt_mem {P : Nat → Pr} {n k : Nat} {o d : T3} {fr : Int} (hk : k < n) (h : (pHit (P k) k o d fr).2 = true) : ((k : Int), (pHit (P k) k o d fr).1) ∈ hUp P n o d fr := by
 unfold hUp
 rw [List.mem_flatMap]
 exact ⟨k, List.mem_range.2 hk, by rw [hitAt_yes h]; simp⟩
theorem amL_cov {P : Nat → Pr} {n m k : Nat} {Z : Nat → Int} {o d : T3} {fr : Int} {lim : List H3 → Int × Int} {s : List H3} (hk : k < n) (hz : ∃ i, i < m ∧ Z i = (k : Int)) : TCov P o d fr lim (s ++ amL P n Z m o d fr) k := fun h => by
 have hm := hitAt_mem hk h
 have hs : ((k : Int), (pHit (P k) k o d fr).1) ∈ hSome (hUp P n o d fr) Z m := by
  rw [hSome_mem]
  obtain ⟨i, hi, e⟩ := hz
  refine ⟨hm, ?_⟩
  unfold rowOf
  rw [List.mem_map]
  exact ⟨i, List.mem_range.2 hi, e⟩
 have hok : ∀ x ∈ hSome (hUp P n o d fr) Z m, Hok x := fun x hx => hUp_ok x (hSome_mem.1 hx).1
 rcases hFirst_spec hok with ⟨e, _⟩ | ⟨_, h1, h2, h3⟩
 · rw [e] at hs; simp at hs
 · refine .inl ⟨(hFirst (hSome (hUp P n o d fr) Z m)).1, ?_, z11.1 h3 _ hs⟩
   unfold amL hAmong
   rw [if_pos h1]
   simp
theorem amL_mem {P : Nat → Pr} {n m : Nat} {Z : Nat → Int} {o d : T3} {fr : Int} (h : (hAmong P n Z m o d fr).2 = true) : (hAmong P n Z m o d fr).1 ∈ hUp P n o d fr := by
 have hok : ∀ x ∈ hSome (hUp P n o d fr) Z m, Hok x := fun x hx => hUp_ok x (hSome_mem.1 hx).1
 unfold hAmong at *
 rcases hFirst_spec hok with ⟨_, e⟩ | ⟨_, _, h2, _⟩
 · rw [e] at h; cases h
 · exact (hSome_mem.1 h2).1
def Chain (ns : List Nd) (m : Int) : List Nat → Nat → Int → Prop
 | [], i, th => i = ns.length ∧ th = m
 | a :: st, i, th => a = i ∧ (mPart ns m i th).2.2.2.2 = true ∧ mFrom ns i = th ∧ Chain ns m st (mPart ns m i th).1.toNat (mPart ns m i th).2.1
def WInv (ns : List Nd) (ord : List Int) (P : Nat → Pr) (n : Nat) (o d : T3) (fr : Int) (lim : List H3 → Int × Int) (st : List Nat) (v : Nat) (s : List H3) : Prop :=
 (∀ k : Nat, (k : Int) = fr → k < n → TCov P o d fr lim s k) ∧
 ((ns.length = 0 ∧ n = 0) ∨ ∃ (i : Nat) (th : Int), v ≤ i ∧ 0 ≤ th ∧ 0 < ns.length ∧ Chain ns ord.length st i th ∧ ∀ j : Nat, (j : Int) < th → TCov P o d fr lim s (ord.getD j 0).toNat)
theorem wh_parts {ns : List Nd} {P : Nat → Pr} {ord : List Int} {n : Nat} (h : mWh ns P ord n = true) : (mWhole ns ord.length).2.2.2.2 = true ∧ pAll P n = true ∧ mOnce ord n = true ∧ mBoxes ns P ord ns.length = true := by
 unfold mWh at h
 simp only [Bool.and_eq_true] at h
 exact ⟨h.1, h.2.1, h.2.2.1, h.2.2.2⟩
theorem wh_len {ns : List Nd} {P : Nat → Pr} {ord : List Int} {n : Nat} (h : mWh ns P ord n = true) : ord.length = n := (mOnce_iff.1 (wh_parts h).2.2.1).1
theorem wh_nil {ns : List Nd} {P : Nat → Pr} {ord : List Int} {n : Nat} (h : mWh ns P ord n = true) (h0 : ns.length = 0) : n = 0 := by
 have hw := (wh_parts h).1
 unfold mWhole at hw
 split at hw
 · rename_i e
   have := wh_len h
   omega
 · have hl : ns = [] := List.length_eq_zero_iff.1 h0
   subst hl
   simp only [Bool.and_eq_true] at hw
   rw [mPart_out (by simp)] at hw
   cases hw.1
theorem winv_start {ns : List Nd} {P : Nat → Pr} {ord : List Int} {n : Nat} {o d : T3} {fr : Int} {lim : List H3 → Int × Int} {s : List H3} (h : mWh ns P ord n = true) (hs : ∀ k : Nat, (k : Int) = fr → k < n → TCov P o d fr lim s k) : WInv ns ord P n o d fr lim [0] 0 s := by
 refine ⟨hs, ?_⟩
 by_cases h0 : ns.length = 0
 · exact .inl ⟨h0, wh_nil h h0⟩
 · obtain ⟨p1, p2, p3⟩ := whole_part (wh_parts h).1 (show 0 < ns.length by omega)
   exact .inr ⟨0, 0, Nat.le_refl _, Int.le_refl _, by omega, ⟨rfl, p1, rfl, by omega, p3⟩, fun j hj => by omega⟩
def AllCov (P : Nat → Pr) (n : Nat) (o d : T3) (fr : Int) (lim : List H3 → Int × Int) (s : List H3) : Prop := ∀ h ∈ hUp P n o d fr, Covd lim s h
theorem allcov_none {P : Nat → Pr} {o d : T3} {fr : Int} {lim : List H3 → Int × Int} {s : List H3} : AllCov P 0 o d fr lim s := fun h hh => by
 obtain ⟨i, hi, _⟩ := hUp_mem hh
 omega
theorem winv_end {ns : List Nd} {P : Nat → Pr} {ord : List Int} {n v : Nat} {o d : T3} {fr : Int} {lim : List H3 → Int × Int} {s : List H3} (hw : mWh ns P ord n = true) (h : WInv ns ord P n o d fr lim [] v s) : AllCov P n o d fr lim s := by
 obtain ⟨_, h2⟩ := h
 rcases h2 with ⟨_, h2⟩ | ⟨i, th, _, _, _, ⟨_, rfl⟩, f⟩
 · subst h2; exact allcov_none
 · intro h hh
   obtain ⟨k, hk, rfl, hp⟩ := hUp_mem hh
   have h1 := (mOnce_iff.1 (wh_parts hw).2.2.1).2 k hk
   have hm : (k : Int) ∈ ord := List.count_pos_iff.1 (by omega)
   obtain ⟨j, hj, e⟩ := List.getElem_of_mem hm
   have := f j (by omega)
   rw [z0g hj, e] at this
   exact this hp
theorem winv_break {ns : List Nd} {P : Nat → Pr} {ord : List Int} {n v a : Nat} {o d : T3} {fr : Int} {lim : List H3 → Int × Int} {st : List Nat} {s : List H3} (h : WInv ns ord P n o d fr lim (a :: st) v s) (hb : a < v ∨ ns.length ≤ a) : AllCov P n o d fr lim s := by
 obtain ⟨_, h2⟩ := h
 rcases h2 with ⟨_, h2⟩ | ⟨i, th, hv, _, _, ⟨rfl, hp, _⟩, f⟩
 · subst h2; exact allcov_none
 · have := mPart_in hp
   omega
theorem winv_top {ns : List Nd} {P : Nat → Pr} {ord : List Int} {n v a : Nat} {o d : T3} {fr : Int} {lim : List H3 → Int × Int} {st : List Nat} {s : List H3} (h : WInv ns ord P n o d fr lim (a :: st) v s) (ha : a < ns.length) :
  (ns[a].2.2.1 ≠ 0 → 0 ≤ ns[a].2.1 ∧ 0 < ns[a].2.2.1 ∧ ns[a].2.1 + ns[a].2.2.1 ≤ ord.length) ∧ (ns[a].2.2.1 = 0 → (a : Int) < ns[a].2.2.2 ∧ ns[a].2.2.2 < ns.length ∧ WInv ns ord P n o d fr lim ((a + 1) :: ns[a].2.2.2.toNat :: st) (a + 1) s) := by
 obtain ⟨hfr, h2⟩ := h
 rcases h2 with ⟨h1, h2⟩ | ⟨i, th, hv, h0, hn, ⟨rfl, hp, hfrm, hc⟩, f⟩
 · omega
 · refine ⟨fun e => ?_, fun e => ?_⟩
   · obtain ⟨e1, e2, e3, e4, e5, e6⟩ := mPart_one ha e hp
     omega
   · obtain ⟨e1, e2, e3, e4, e5, e6⟩ := mPart_two ha e hp
     have i1 := mPart_in e2
     have i2 := mPart_in e4
     have hf1 : mFrom ns (a + 1) = th := by rw [z1j, z0g ha, if_neg (by omega), hfrm]
     have hf2 := (part_each (ns.length + 1) (a + 1) th (by omega) e2 hf1).1
     refine ⟨by omega, by omega, hfr, .inr ⟨a + 1, th, Nat.le_refl _, h0, hn, ⟨rfl, e2, hf1, by rw [e3], e4, hf2, ?_⟩, f⟩⟩
     rw [← e5, ← e6]; exact hc
theorem winv_leaf {ns : List Nd} {P : Nat → Pr} {ord : List Int} {n v a : Nat} {o d : T3} {fr : Int} {lim : List H3 → Int × Int} {st : List Nat} {s : List H3} (hw : mWh ns P ord n = true) (h : WInv ns ord P n o d fr lim (a :: st) v s) (ha : a < ns.length) (hc0 : ns[a].2.2.1 ≠ 0) :
  WInv ns ord P n o d fr lim st (a + 1) (s ++ amL P n (fun i => ord.getD (ns[a].2.1.toNat + i) 0) ns[a].2.2.1.toNat o d fr) := by
 obtain ⟨hfr, h2⟩ := h
 rcases h2 with ⟨h1, h2⟩ | ⟨i, th, hv, h0, hn, ⟨rfl, hp, hfrm, hc⟩, f⟩
 · omega
 · obtain ⟨e1, e2, e3, e4, e5, e6⟩ := mPart_one ha hc0 hp
   rw [e5, e6] at hc
   refine ⟨fun k e hk => (hfr k e hk).more (List.prefix_append _ _), .inr ⟨a + 1, th + ns[a].2.2.1, Nat.le_refl _, by omega, hn, by rw [show ((a : Int) + 1).toNat = a + 1 by omega] at hc; exact hc, fun j hj => ?_⟩⟩
   by_cases hlt : (j : Int) < th
   · exact (f j hlt).more (List.prefix_append _ _)
   · have hin := mOnce_in (wh_parts hw).2.2.1 j (by omega)
     refine amL_cov (by omega) ⟨j - ns[a].2.1.toNat, by omega, ?_⟩
     rw [show ns[a].2.1.toNat + (j - ns[a].2.1.toNat) = j by omega]
     omega
theorem hits_all {V : Nat → Bx} {o d : T3} {p m : Int} {n k : Nat} (hV : ∀ k, k < n → bRight (V k) = true) (hk : k < n) (h : hits (V k) o d p m) : ∀ i, k < i → i ≤ n → hits (bAll V i) o d p m
 | 0, h1, _ => by omega
 | i + 1, h1, h2 => by
  have r := bAll_right (n := n) hV (hV 0 (by omega)) i (by omega)
  rw [bAll_succ]
  by_cases e : k < i
  · exact hits_join r (hV i (by omega)) (hits_all hV hk h i e (by omega))
  · have : k = i := by omega
    subst this
    rw [bJoin_comm]
    exact hits_join (hV k hk) r h
theorem beyond {b : Bx} {o d : T3} {p q n m : Int} (h : bHit b o d p q = true) (hq : 1 ≤ q) (hno : bHit b o d n m = false) : fless n m p q = true := by
 rw [bHit_iff] at h
 obtain ⟨h1, h2, h3, x, y, hy, hx, hxy, a1, a2, a3⟩ := h
 rw [z0z]
 by_cases hm : 1 ≤ m
 · refine ⟨hm, hq, Int.not_le.1 fun hle => ?_⟩
   have : bHit b o d n m = true := by
    rw [bHit_iff]
    exact ⟨h1, h2, h3, x, y, hy, hx, fun _ => frac_trans (a := x) (b := y) (c := p) (d := q) (p := n) (q := m) hy hq hm (hxy hq) hle, a1, a2, a3⟩
   rw [this] at hno; cases hno
 · have : bHit b o d n m = true := by
    rw [bHit_iff]
    exact ⟨h1, h2, h3, x, y, hy, hx, fun e => absurd e hm, a1, a2, a3⟩
   rw [this] at hno; cases hno
theorem winv_prune {ns : List Nd} {P : Nat → Pr} {ord : List Int} {n v a : Nat} {o d : T3} {fr : Int} {lim : List H3 → Int × Int} {st : List Nat} {s : List H3} (hw : mWh ns P ord n = true) (h : WInv ns ord P n o d fr lim (a :: st) v s) (ha : a < ns.length) (hno : bHit ns[a].1 o d (lim s).1 (lim s).2 = false) :
  WInv ns ord P n o d fr lim st (a + 1) s := by
 obtain ⟨hfr, h2⟩ := h
 rcases h2 with ⟨h1, h2⟩ | ⟨i, th, hv, h0, hn, ⟨rfl, hp, hfrm, hc⟩, f⟩
 · omega
 · obtain ⟨w1, w2, w3, w4⟩ := wh_parts hw
   have hin := mPart_in hp
   have hbox := (mBoxes_iff _).1 w4 a ha
   rw [z0g ha] at hbox
   unfold mThing at hbox
   rw [hfrm] at hbox
   refine ⟨hfr, .inr ⟨(mPart ns ord.length a th).1.toNat, (mPart ns ord.length a th).2.1, by omega, by omega, hn, hc, fun j hj => ?_⟩⟩
   by_cases hlt : (j : Int) < th
   · exact f j hlt
   · have hjn := mOnce_in w3 j (by omega)
     intro hhit
     by_cases e : ((ord.getD j 0).toNat : Int) = fr
     · exact hfr _ e (by omega) hhit
     · refine .inr ⟨s, List.prefix_refl _, ?_⟩
       dsimp only
       have hm := prim_met (fun k => e k.symm) hhit
       obtain ⟨m1, m2, m3⟩ := hm
       refine beyond ?_ m2 hno
       rw [bHit_iff] at m3 ⊢
       obtain ⟨b1, b2, b3, b4⟩ := m3
       have hV : ∀ k, k < ((mPart ns ord.length a th).2.1 - th).toNat → bRight (mBox P ord (th.toNat + k)) = true := fun k hk => mBox_right w2 w3 (by omega)
       rw [hbox]
       unfold mAt
       refine ⟨bAll_right (n := ((mPart ns ord.length a th).2.1 - th).toNat) hV (hV 0 (by omega)) _ (Nat.le_refl _), b2, b3, ?_⟩
       refine hits_all hV (k := j - th.toNat) (by omega) ?_ _ (by omega) (Nat.le_refl _)
       unfold mBox
       rw [show th.toNat + (j - th.toNat) = j by omega]
       exact b4
def limC (s : List H3) : Int × Int := (pFirst s).1.2
theorem closest_cov {s : List H3} {x : H3} (oks : ∀ y ∈ s, Hok y) (ox : Hok x) (h : Covd limC s x) : ∃ y ∈ s, hb x y = false := by
 rcases h with g | ⟨s', hp, hl⟩
 · exact g
 · rcases pFirst_spec _ s' rfl (fun y hy => oks y (hp.subset hy)) with ⟨_, e⟩ | ⟨_, h1, h2, h3⟩
   · unfold limC at hl
     rw [e, z0z] at hl
     exact absurd hl.1 (by decide)
   · refine ⟨(pFirst s').1, hp.subset h2, ?_⟩
     unfold limC at hl
     rw [z0z] at hl
     have oy := oks _ (hp.subset h2)
     cases g : hb x (pFirst s').1 with
     | false => rfl
     | true => rw [hb_iff ox oy] at g; omega
theorem closest_told {P : Nat → Pr} {n : Nat} {o d : T3} {fr : Int} {s : List H3} (hs : ∀ x ∈ s, x ∈ hUp P n o d fr) (h : AllCov P n o d fr limC s) : pFirst s = hClosest P n o d fr := by
 have oks : ∀ x ∈ s, Hok x := fun x hx => hUp_ok x (hs x hx)
 unfold hClosest
 rcases pFirst_spec _ s rfl oks with ⟨rfl, e⟩ | ⟨hn, h1, h2, h3⟩
 · have : hUp P n o d fr = [] := by
    cases hu : hUp P n o d fr with
    | nil => rfl
    | cons y m =>
     have hy : y ∈ hUp P n o d fr := by rw [hu]; simp
     obtain ⟨z, hz, _⟩ := closest_cov oks (hUp_ok y hy) (h y hy)
     simp at hz
   rw [e, this]; rfl
 · have hb0 : hBest (hUp P n o d fr) (pFirst s).1 = true := by
    rw [z11] at h3 ⊢
    intro x hx
    obtain ⟨y, hy, hxy⟩ := closest_cov oks (hUp_ok x hx) (h x hx)
    cases g : hb x (pFirst s).1 with
    | false => rfl
    | true =>
     have o1 := hUp_ok x hx
     have o2 := oks _ h2
     have o3 := oks _ hy
     cases k : hb (pFirst s).1 y with
     | true => rw [hb_trans o1 o2 o3 g k] at hxy; cases hxy
     | false =>
      have e := hb_total o2 o3 k (h3 y hy)
      have := hUp_unique _ (hs _ h2) _ (hs _ hy) e
      rw [← this, g] at hxy; cases hxy
   rw [hFirst_unique hUp_ok hUp_unique (hs _ h2) hb0, ← h1]
def limA (m e : Int) (s : List H3) : Int × Int := (m, e)
theorem any_told {P : Nat → Pr} {n : Nat} {o d : T3} {fr m e : Int} {s : List H3} (hs : ∀ x ∈ s, x ∈ hUp P n o d fr) (h : AllCov P n o d fr (limA m e) s) (hno : ∀ x ∈ s, (!decide (1 ≤ e) || fless x.2.1 x.2.2 m e) = false) : hAny P n o d fr m e = false := by
 unfold hAny
 refine any_none fun x hx => ?_
 have ox := hUp_ok x hx
 rcases h x hx with ⟨y, hy, hxy⟩ | ⟨s', _, hl⟩
 · have hn := hno y hy
   rw [Bool.or_eq_false_iff] at hn ⊢
   refine ⟨hn.1, ?_⟩
   have he : 1 ≤ e := by simpa using hn.1
   have oy := hUp_ok y (hs y hy)
   cases g : fless x.2.1 x.2.2 m e with
   | false => rfl
   | true =>
    rw [z0z] at g
    have n1 : ¬ hb x y = true := by rw [hxy]; decide
    rw [hb_iff ox oy] at n1
    have n2 : ¬ fless y.2.1 y.2.2 m e = true := by rw [hn.2]; decide
    rw [z0z] at n2
    have := (hfrac_trans oy.2 ox.2 he (show y.2.1 * x.2.2 ≤ x.2.1 * y.2.2 by omega) (show x.2.1 * e ≤ m * x.2.2 by omega)).2 (.inr g.2.2)
    exact absurd ⟨oy.2, he, this⟩ n2
 · unfold limA at hl
   rw [z0z] at hl
   dsimp only at hl
   rw [Bool.or_eq_false_iff]
   refine ⟨by rw [zt hl.1]; rfl, ?_⟩
   cases g : fless x.2.1 x.2.2 m e with
   | false => rfl
   | true => rw [z0z] at g; omega
theorem any_yes {P : Nat → Pr} {n : Nat} {o d : T3} {fr m e : Int} {x : H3} (hx : x ∈ hUp P n o d fr) (h : (!decide (1 ≤ e) || fless x.2.1 x.2.2 m e) = true) : hAny P n o d fr m e = true := by
 unfold hAny
 exact List.any_eq_true.2 ⟨x, hx, h⟩
end
end Go.Proofs.Sky
