/- A slice of structs of ints and bools that came in, opened: its element -/
import Derived.Deep.Slices
import Derived.Test.YtbmpmjdlaahekaaGreatWs6
import Derived.ChangeSlices
import Derived.DataReads
import Derived.Laws.AppendOwn
set_option maxRecDepth 100000
set_option maxHeartbeats 8000000
set_option linter.unusedVariables false
set_option linter.unusedSimpArgs false
namespace Go.Proofs.Sky
section
open Go.ChangeShapes Go.WideShapes Go.RowKit
def RowsAt (w : World) (b off n c : Nat) (ks : List LK) (V : Nat → List Value) : Prop :=
 ∀ i, i < n → LeafAll ks (V i) ∧ ∀ j, j < c → w.cell? ⟨b, off + i * c + j, none⟩ = (V i)[j]?
theorem LeafAll.length : ∀ {ks : List LK} {cs : List Value}, LeafAll ks cs → cs.length = ks.length
 | [], cs, h => by
  have : cs = [] := h
  subst this
  rfl
 | k :: ks, cs, h => by
  obtain ⟨v, r, rfl, _, h2⟩ := h
  simp [h2.length]
end
end Go.Proofs.Sky
namespace Go.Proofs.YtbmpmjdlaahekaaGreat
section
open Go.RowKit Go.Proofs.Sky
def IntSlice (w : World) (a : Option Addr) (n : Nat) (Z : Nat → Int) : Prop :=
 n = 0 ∨ ∃ b off, a = some ⟨b, off, none⟩ ∧ (∀ k, k < n → w.cell? ⟨b, off + k, none⟩ = some (.int .i64 (Z k)) ∧ I64 (Z k)) ∧ b < w.heap.size
end
end Go.Proofs.YtbmpmjdlaahekaaGreat
namespace Go.Proofs.Sky
section
section
def wi (n x y z : Int) : Bool := decide (-n ≤ x ∧ x ≤ n ∧ -n ≤ y ∧ y ≤ n ∧ -n ≤ z ∧ z ≤ n)
theorem wi_iff {n x y z : Int} : wi n x y z = true ↔ -n ≤ x ∧ x ≤ n ∧ -n ≤ y ∧ y ≤ n ∧ -n ≤ z ∧ z ≤ n := by unfold wi; exact decide_eq_true_iff
def vnear (x y z : Int) : Bool := wi 1048576 x y z
theorem z0t {x y z : Int} : vnear x y z = true ↔ -1048576 ≤ x ∧ x ≤ 1048576 ∧ -1048576 ≤ y ∧ y ≤ 1048576 ∧ -1048576 ≤ z ∧ z ≤ 1048576 := wi_iff
def vsub (x a : Int) : Int := sat (x + sat (a * -1))
def vdot (x y z a b c : Int) : Int := if vnear x y z = true ∧ vnear a b c = true then x * a + y * b + z * c else 0
def vcr (x y z a b c : Int) : Int × Int × Int := if vnear x y z = true ∧ vnear a b c = true then (y * c - z * b, z * a - x * c, x * b - y * a) else (0, 0, 0)
def vvol (x y z a b c d e f : Int) : Int := if vnear x y z = true ∧ vnear a b c = true ∧ vnear d e f = true then x * (b * f - c * e) + y * (c * d - a * f) + z * (a * e - b * d) else 0
theorem mul_in {x a : Int} {N M : Nat} (hx : -(N : Int) ≤ x ∧ x ≤ N) (ha : -(M : Int) ≤ a ∧ a ≤ M) : -((N * M : Nat) : Int) ≤ x * a ∧ x * a ≤ ((N * M : Nat) : Int) := by
 have b : (x * a).natAbs ≤ N * M := by rw [Int.natAbs_mul]; exact Nat.mul_le_mul (by omega) (by omega)
 omega
theorem z0n {x a : Int} (hx : -1048576 ≤ x ∧ x ≤ 1048576) (ha : -1048576 ≤ a ∧ a ≤ 1048576) : -1099511627776 ≤ x * a ∧ x * a ≤ 1099511627776 := mul_in (N := 1048576) (M := 1048576) hx ha
theorem z0y {x a : Int} (hx : -1048576 ≤ x ∧ x ≤ 1048576) (ha : -2199023255552 ≤ a ∧ a ≤ 2199023255552) : -2305843009213693952 ≤ x * a ∧ x * a ≤ 2305843009213693952 := mul_in (N := 1048576) (M := 2199023255552) hx ha
theorem z0i (x : Int) : 0 ≤ x * x := by
 by_cases h : 0 ≤ x
 · exact Int.mul_nonneg h h
 · rw [← Int.neg_mul_neg]; exact Int.mul_nonneg (by omega) (by omega)
end
end
section
section
end
end
section
open Go.RowKit
abbrev T3 := Int × Int × Int
def dtT (u v : T3) : Int := u.1 * v.1 + u.2.1 * v.2.1 + u.2.2 * v.2.2
def nrT (u : T3) : Bool := vnear u.1 u.2.1 u.2.2
end
section
open Go.RowKit
theorem Bk.grown {w w' : World} {b : Nat} {t : TypeId} {cs : Array Value} {row : Option Nat} (h : Bk w b t cs) (hg : w.grownBy w' row) (hne : some b ≠ row) : Bk w' b t cs := (hg.block b h.lt hne).trans h
theorem z07 {w w' : World} {B : Nat} {e : TypeId} {size n : Nat} {v : Value} {xs : List Value} (h : w.ownsRow B e size v n xs) (hb : Below w.heap.size w w') : w'.ownsRow B e size v n xs := by
 obtain ⟨hl, h⟩ := h
 refine ⟨hl, ?_⟩
 rcases h with h | ⟨g, cap, cur, e1, hB, hg, rest⟩
 · exact .inl h
 · have hlt := (Array.getElem?_eq_some_iff.1 hg).1
   exact .inr ⟨g, cap, cur, e1, hB, (hb.block g hlt).trans hg, rest⟩
theorem z1f {w : World} {B C : Nat} {e : TypeId} {size n : Nat} {v : Value} {xs : List Value} (h : w.ownsRow B e size v n xs) (hC : C ≤ B) : w.ownsRow C e size v n xs := by
 obtain ⟨hl, h⟩ := h
 refine ⟨hl, ?_⟩
 rcases h with h | ⟨g, cap, cur, e1, hB, rest⟩
 · exact .inl h
 · exact .inr ⟨g, cap, cur, e1, by omega, rest⟩
end
end Go.Proofs.Sky
namespace Go.Proofs.YtbmpmjdlaahekaaGreat
section
open Go.RowKit Go.Proofs.Sky
def Sl (w : World) (v : Value) (n c : Nat) (V : Nat → List Value) : Prop :=
 ∃ (a : Option Addr) (cap : Nat), v = .slice a n cap ∧ n ≤ maxLen ∧ (n = 0 ∨ ∃ b off, a = some ⟨b, off, none⟩ ∧ b < w.heap.size ∧ ∀ i, i < n → ∀ j, j < c → w.cell? ⟨b, off + i * c + j, none⟩ = (V i)[j]?)
theorem Sl.below {w w' : World} {B : Nat} {v : Value} {n c : Nat} {V : Nat → List Value} (h : Sl w v n c V) (hb : Below B w w') (hB : w.heap.size ≤ B) : Sl w' v n c V := by
 obtain ⟨a, cap, rfl, hm, h⟩ := h
 refine ⟨a, cap, rfl, hm, ?_⟩
 rcases h with h | ⟨b, off, rfl, hlt, hc⟩
 · exact .inl h
 · exact .inr ⟨b, off, rfl, zl hlt hb.size, fun i hi j hj => (hb.cell (p := ⟨b, off + i * c + j, none⟩) (zl hlt hB)).trans (hc i hi j hj)⟩
theorem flat_at {α : Type} (f : α → List Value) (c : Nat) (hf : ∀ x, (f x).length = c) : ∀ (l : List α) (i : Nat) (h : i < l.length) (j : Nat), j < c → (l.flatMap f)[i * c + j]? = (f l[i])[j]?
 | [], i, h, j, hj => by simp at h
 | x :: l, 0, h, j, hj => by
  rw [List.flatMap_cons, Nat.zero_mul, Nat.zero_add, List.getElem?_append_left (by rw [hf]; exact hj)]
  rfl
 | x :: l, i + 1, h, j, hj => by
  have h' : i < l.length := by simpa using h
  rw [List.flatMap_cons, List.getElem?_append_right (by rw [hf, Nat.succ_mul]; omega), hf, show (i + 1) * c + j - c = i * c + j by rw [Nat.succ_mul]; omega]
  exact flat_at f c hf l i h' j hj
theorem flat_len {α : Type} (f : α → List Value) (c : Nat) (hf : ∀ x, (f x).length = c) : ∀ l : List α, (l.flatMap f).length = l.length * c
 | [] => by simp
 | x :: l => by rw [List.flatMap_cons, List.length_append, hf, flat_len f c hf l, List.length_cons, Nat.succ_mul]; omega
def Sll {α : Type} (w : World) (v : Value) (c : Nat) (f : α → List Value) (l : List α) : Prop :=
 ∃ (a : Option Addr) (cap : Nat), v = .slice a l.length cap ∧ l.length ≤ maxLen ∧ (l.length = 0 ∨ ∃ b off, a = some ⟨b, off, none⟩ ∧ b < w.heap.size ∧ ∀ i (h : i < l.length), ∀ j, j < c → w.cell? ⟨b, off + i * c + j, none⟩ = (f l[i])[j]?)
theorem Sll.below {α : Type} {w w' : World} {B : Nat} {v : Value} {c : Nat} {f : α → List Value} {l : List α} (h : Sll w v c f l) (hb : Below B w w') (hB : w.heap.size ≤ B) : Sll w' v c f l := by
 obtain ⟨a, cap, rfl, hm, h⟩ := h
 refine ⟨a, cap, rfl, hm, ?_⟩
 rcases h with h | ⟨b, off, rfl, hlt, hc⟩
 · exact .inl h
 · exact .inr ⟨b, off, rfl, zl hlt hb.size, fun i hi j hj => (hb.cell (p := ⟨b, off + i * c + j, none⟩) (zl hlt hB)).trans (hc i hi j hj)⟩
theorem owns_sll {α : Type} {w : World} {B : Nat} {e : TypeId} {size n : Nat} {v : Value} {f : α → List Value} {l : List α} (hf : ∀ x, (f x).length = size) (h0 : 0 < size) (hn : n = l.length) (hm : n ≤ maxLen) (h : w.ownsRow B e size v n (l.flatMap f)) : Sll w v size f l := by
 subst hn
 obtain ⟨hl, h⟩ := h
 rcases h with ⟨rfl, hz⟩ | ⟨g, cap, cur, rfl, hB, hg, hn, hms, hs, hx⟩
 · exact ⟨none, 0, by rw [hz], hm, .inl hz⟩
 · refine ⟨_, cap, rfl, hm, ?_⟩
   by_cases hz : l.length = 0
   · exact .inl hz
   · refine .inr ⟨g, 0, rfl, ?_, fun i hi j hj => ?_⟩
     · rcases Nat.lt_or_ge g w.heap.size with q | q
       · exact q
       · rw [Array.getElem?_eq_none q] at hg; cases hg
     · have e1 := flat_at f size hf l i hi j hj
       rw [Nat.zero_add, ← e1]
       have e2 := e1
       rw [← hx, List.getElem?_take] at e2
       split at e2
       · rename_i hlt
         simp only [World.cell?, hg]
         rw [← hx, List.getElem?_take, if_pos hlt]
         simp
       · have hl2 : j < (f l[i]).length := by rw [hf]; exact hj
         rw [List.getElem?_eq_getElem hl2] at e2
         cases e2
end
end Go.Proofs.YtbmpmjdlaahekaaGreat
namespace Go.Proofs.Sky
section
section
open Go.RowKit
abbrev Bx := T3 × T3
def bRight (b : Bx) : Bool := nrT b.1 && (nrT b.2 && decide (b.1.1 ≤ b.2.1 ∧ b.1.2.1 ≤ b.2.2.1 ∧ b.1.2.2 ≤ b.2.2.2))
def bJoin (a b : Bx) : Bx := if bRight a = true ∧ bRight b = true then ((min a.1.1 b.1.1, min a.1.2.1 b.1.2.1, min a.1.2.2 b.1.2.2), (max a.2.1 b.2.1, max a.2.2.1 b.2.2.1, max a.2.2.2 b.2.2.2)) else ((0, 0, 0), (0, 0, 0))
def bArea (b : Bx) : Int := if bRight b = true then (b.2.1 - b.1.1) * (b.2.2.1 - b.1.2.1) + (b.2.2.1 - b.1.2.1) * (b.2.2.2 - b.1.2.2) + (b.2.2.2 - b.1.2.2) * (b.2.1 - b.1.1) else 0
def crd (v : T3) (axis : Int) : Int := if axis = 0 then v.1 else if axis = 1 then v.2.1 else v.2.2
def bMid (b : Bx) (axis : Int) : Int := if bRight b = true ∧ 0 ≤ axis ∧ axis ≤ 2 then crd b.1 axis + crd b.2 axis else 0
def bHull (V : Nat → T3) : Nat → Bx
 | 0 => ((0, 0, 0), (0, 0, 0))
 | k + 1 => if k = 0 then (V 0, V 0) else bJoin (bHull V k) (V k, V k)
def bOfOk (V : Nat → T3) (n : Nat) : Bool := decide (0 < n) && (List.range n).all (fun k => nrT (V k))
def bOf (V : Nat → T3) (n : Nat) : Bx := if bOfOk V n = true then bHull V n else ((0, 0, 0), (0, 0, 0))
def onAx (lo hi o d p q : Int) : Prop := lo * q ≤ o * q + d * p ∧ o * q + d * p ≤ hi * q
def hits (b : Bx) (o d : T3) (n m : Int) : Prop :=
 ∃ p q : Int, 1 ≤ q ∧ 0 ≤ p ∧ (1 ≤ m → p * m ≤ n * q) ∧ onAx b.1.1 b.2.1 o.1 d.1 p q ∧ onAx b.1.2.1 b.2.2.1 o.2.1 d.2.1 p q ∧ onAx b.1.2.2 b.2.2.2 o.2.2 d.2.2 p q
noncomputable def bHit (b : Bx) (o d : T3) (n m : Int) : Bool := @decide (bRight b = true ∧ nrT o = true ∧ nrT d = true ∧ hits b o d n m) (Classical.propDecidable _)
theorem bHit_iff {b : Bx} {o d : T3} {n m : Int} : bHit b o d n m = true ↔ (bRight b = true ∧ nrT o = true ∧ nrT d = true ∧ hits b o d n m) := by
 unfold bHit; exact @decide_eq_true_iff _ (Classical.propDecidable _)
def bx6 (b : Bx) : Array Value := #[b.1.1, b.1.2.1, b.1.2.2, b.2.1, b.2.2.1, b.2.2.2]
theorem z10 {b : Bx} : bRight b = true ↔ (nrT b.1 = true ∧ nrT b.2 = true ∧ b.1.1 ≤ b.2.1 ∧ b.1.2.1 ≤ b.2.2.1 ∧ b.1.2.2 ≤ b.2.2.2) := by
 unfold bRight; simp [Bool.and_eq_true]
theorem z0r {v : T3} : nrT v = true ↔ -1048576 ≤ v.1 ∧ v.1 ≤ 1048576 ∧ -1048576 ≤ v.2.1 ∧ v.2.1 ≤ 1048576 ∧ -1048576 ≤ v.2.2 ∧ v.2.2 ≤ 1048576 := by
 unfold nrT; exact z0t
theorem bJoin_yes {a b : Bx} (ha : bRight a = true) (hb : bRight b = true) : bJoin a b = ((min a.1.1 b.1.1, min a.1.2.1 b.1.2.1, min a.1.2.2 b.1.2.2), (max a.2.1 b.2.1, max a.2.2.1 b.2.2.1, max a.2.2.2 b.2.2.2)) := by
 unfold bJoin; rw [if_pos ⟨ha, hb⟩]
theorem bJoin_right {a b : Bx} (ha : bRight a = true) (hb : bRight b = true) : bRight (bJoin a b) = true := by
 rw [bJoin_yes ha hb]
 rw [z10, z0r, z0r] at *
 dsimp only
 omega
theorem onAx_mono {lo hi lo' hi' o d p q : Int} (hq : 1 ≤ q) (h1 : lo' ≤ lo) (h2 : hi ≤ hi') (h : onAx lo hi o d p q) : onAx lo' hi' o d p q := by
 have e1 := Int.mul_le_mul_of_nonneg_right h1 (show 0 ≤ q by omega)
 have e2 := Int.mul_le_mul_of_nonneg_right h2 (show 0 ≤ q by omega)
 unfold onAx at *
 omega
theorem hits_join {a b : Bx} {o d : T3} {n m : Int} (ha : bRight a = true) (hb : bRight b = true) (h : hits a o d n m) : hits (bJoin a b) o d n m := by
 rw [bJoin_yes ha hb]
 obtain ⟨p, q, hq, hp, hm, h1, h2, h3⟩ := h
 exact ⟨p, q, hq, hp, hm, onAx_mono hq (by dsimp only; omega) (by dsimp only; omega) h1, onAx_mono hq (by dsimp only; omega) (by dsimp only; omega) h2, onAx_mono hq (by dsimp only; omega) (by dsimp only; omega) h3⟩
theorem bJoin_comm {a b : Bx} : bJoin a b = bJoin b a := by
 unfold bJoin
 by_cases h : bRight a = true ∧ bRight b = true
 · rw [if_pos h, if_pos h.symm]
   simp only [Int.min_comm, Int.max_comm]
 · rw [if_neg h, if_neg (fun e => h e.symm)]
theorem bJoin_self {a : Bx} (ha : bRight a = true) : bJoin a a = a := by
 rw [bJoin_yes ha ha]
 obtain ⟨⟨x, y, z⟩, u, v, t⟩ := a
 simp
end
end
section
section
open Go.RowKit
abbrev Iv := (Int × Int) × (Int × Int)
def ivLater (a b : Int × Int) : Int × Int := if fless a.1 a.2 b.1 b.2 = true then b else a
def ivEarlier (a b : Int × Int) : Int × Int := if a.2 < 1 ∨ fless b.1 b.2 a.1 a.2 = true then b else a
def ivShared (i o : Iv) : Iv := (ivLater i.1 o.1, ivEarlier i.2 o.2)
def ivEmpty (i : Iv) : Bool := fless i.2.1 i.2.2 i.1.1 i.1.2
def btw (lo hi way : Int) : Iv := if way = 0 then (if 0 < lo ∨ hi < 0 then ((1, 1), (0, 1)) else ((0, 1), (0, 0))) else if way < 0 then ((-hi, -way), (-lo, -way)) else ((lo, way), (hi, way))
def Inn (i : Iv) (p q : Int) : Prop := i.1.1 * q ≤ p * i.1.2 ∧ (1 ≤ i.2.2 → p * i.2.2 ≤ i.2.1 * q)
def ivInts (i : Iv) : Prop := I64 i.1.1 ∧ I64 i.1.2 ∧ I64 i.2.1 ∧ I64 i.2.2
def iv4 (i : Iv) : Array Value := #[i.1.1, i.1.2, i.2.1, i.2.2]
def ivFold (i : Iv) (l : List Iv) : Iv := l.foldl ivShared i
theorem ivFold_snoc (i : Iv) (l : List Iv) (x : Iv) : ivFold i (l ++ [x]) = ivShared (ivFold i l) x := by unfold ivFold; rw [List.foldl_append]; rfl
theorem z0z {n d m e : Int} : fless n d m e = true ↔ 1 ≤ d ∧ 1 ≤ e ∧ n * e < m * d := by
 unfold fless; simp only [Bool.and_eq_true, decide_eq_true_eq]
theorem frac_trans {a b c d p q : Int} (hb : 1 ≤ b) (hd : 1 ≤ d) (hq : 1 ≤ q) (h1 : a * d ≤ c * b) (h2 : c * q ≤ p * d) : a * q ≤ p * b := by
 have e1 := Int.mul_le_mul_of_nonneg_right h1 (show 0 ≤ q by omega)
 have e2 := Int.mul_le_mul_of_nonneg_right h2 (show 0 ≤ b by omega)
 have e3 : a * q * d ≤ p * b * d := by
  have r1 : a * q * d = a * d * q := by rw [Int.mul_right_comm]
  have r2 : p * b * d = p * d * b := by rw [Int.mul_right_comm]
  have r3 : c * b * q = c * q * b := by rw [Int.mul_right_comm]
  rw [r1, r2]
  omega
 exact Int.le_of_mul_le_mul_right e3 (by omega)
theorem inn_later {a b : Int × Int} {p q : Int} (ha : 1 ≤ a.2) (hb : 1 ≤ b.2) (hq : 1 ≤ q) : (ivLater a b).1 * q ≤ p * (ivLater a b).2 ↔ (a.1 * q ≤ p * a.2 ∧ b.1 * q ≤ p * b.2) := by
 unfold ivLater
 cases h : fless a.1 a.2 b.1 b.2 with
 | true =>
  rw [if_pos rfl]
  have h' := (z0z.1 h).2.2
  exact ⟨fun g => ⟨frac_trans ha hb hq (by omega) g, g⟩, fun g => g.2⟩
 | false =>
  rw [if_neg (by simp)]
  have h' : b.1 * a.2 ≤ a.1 * b.2 := by
   have : ¬ (1 ≤ a.2 ∧ 1 ≤ b.2 ∧ a.1 * b.2 < b.1 * a.2) := fun g => by rw [z0z.2 g] at h; cases h
   omega
  exact ⟨fun g => ⟨g, frac_trans hb ha hq h' g⟩, fun g => g.1⟩
theorem inn_earlier {a b : Int × Int} {p q : Int} (hq : 1 ≤ q) : (1 ≤ (ivEarlier a b).2 → p * (ivEarlier a b).2 ≤ (ivEarlier a b).1 * q) ↔ ((1 ≤ a.2 → p * a.2 ≤ a.1 * q) ∧ (1 ≤ b.2 → p * b.2 ≤ b.1 * q)) := by
 unfold ivEarlier
 by_cases ha : a.2 < 1
 · rw [if_pos (.inl ha)]
   exact ⟨fun g => ⟨fun k => by omega, g⟩, fun g => g.2⟩
 · cases h : fless b.1 b.2 a.1 a.2 with
   | true =>
    rw [if_pos (.inr rfl)]
    obtain ⟨h1, h2, h3⟩ := z0z.1 h
    refine ⟨fun g => ⟨fun k => ?_, g⟩, fun g => g.2⟩
    -- p/q ≤ b ≤ a
    have g' := g h1
    exact frac_trans hq h1 (by omega) g' (by omega)
   | false =>
    rw [if_neg (by simp; omega)]
    refine ⟨fun g => ⟨g, fun k => ?_⟩, fun g => g.1⟩
    have h' : a.1 * b.2 ≤ b.1 * a.2 := by
     have : ¬ (1 ≤ b.2 ∧ 1 ≤ a.2 ∧ b.1 * a.2 < a.1 * b.2) := fun g => by rw [z0z.2 g] at h; cases h
     omega
    have g' := g (by omega)
    exact frac_trans hq (show 1 ≤ a.2 by omega) k g' h'
theorem inn_shared {i o : Iv} {p q : Int} (hi : 1 ≤ i.1.2) (ho : 1 ≤ o.1.2) (hq : 1 ≤ q) : Inn (ivShared i o) p q ↔ Inn i p q ∧ Inn o p q := by
 unfold Inn ivShared
 rw [inn_later hi ho hq, inn_earlier hq]
 exact ⟨fun g => ⟨⟨g.1.1, g.2.1⟩, g.1.2, g.2.2⟩, fun g => ⟨⟨g.1.1, g.2.1⟩, g.1.2, g.2.2⟩⟩
theorem ivShared_ok {i o : Iv} (hi : 1 ≤ i.1.2) (ho : 1 ≤ o.1.2) : 1 ≤ (ivShared i o).1.2 := by
 unfold ivShared ivLater; dsimp only; split <;> assumption
theorem ivShared_ints {i o : Iv} (hi : ivInts i) (ho : ivInts o) : ivInts (ivShared i o) := by
 obtain ⟨i1, i2, i3, i4⟩ := hi
 obtain ⟨o1, o2, o3, o4⟩ := ho
 unfold ivInts ivShared ivLater ivEarlier
 dsimp only
 refine ⟨?_, ?_, ?_, ?_⟩ <;> split <;> assumption
theorem empty_iff {i : Iv} (hi : 1 ≤ i.1.2) : ivEmpty i = false ↔ ∃ p q, 1 ≤ q ∧ Inn i p q := by
 unfold ivEmpty
 constructor
 · intro h
   refine ⟨i.1.1, i.1.2, hi, Int.le_refl _, fun g => ?_⟩
   have : ¬ (1 ≤ i.2.2 ∧ 1 ≤ i.1.2 ∧ i.2.1 * i.1.2 < i.1.1 * i.2.2) := fun k => by rw [z0z.2 k] at h; cases h
   omega
 · rintro ⟨p, q, hq, h1, h2⟩
   cases h : fless i.2.1 i.2.2 i.1.1 i.1.2 with
   | false => rfl
   | true =>
    obtain ⟨g1, g2, g3⟩ := z0z.1 h
    have := frac_trans hi hq g1 h1 (h2 g1)
    omega
theorem empty_more {i o : Iv} (hi : 1 ≤ i.1.2) (ho : 1 ≤ o.1.2) (h : ivEmpty i = true) : ivEmpty (ivShared i o) = true := by
 cases g : ivEmpty (ivShared i o) with
 | true => rfl
 | false =>
  obtain ⟨p, q, hq, k⟩ := (empty_iff (ivShared_ok hi ho)).1 g
  rw [inn_shared hi ho hq] at k
  rw [(empty_iff hi).2 ⟨p, q, hq, k.1⟩] at h
  cases h
theorem empty_fold {l : List Iv} : ∀ {i : Iv}, 1 ≤ i.1.2 → (∀ x ∈ l, 1 ≤ x.1.2) → ivEmpty i = true → ivEmpty (ivFold i l) = true := by
 induction l with
 | nil => intro i _ _ h; exact h
 | cons x l ih =>
  intro i hi hl h
  exact ih (ivShared_ok hi (hl x (by simp))) (fun y hy => hl y (by simp [hy])) (empty_more hi (hl x (by simp)) h)
theorem inn_btw {lo hi o d p q : Int} (hp : 0 ≤ p) (hq : 1 ≤ q) : Inn (btw (lo - o) (hi - o) d) p q ↔ onAx lo hi o d p q := by
 have e1 : (lo - o) * q = lo * q - o * q := Int.sub_mul ..
 have e2 : (hi - o) * q = hi * q - o * q := Int.sub_mul ..
 unfold btw
 by_cases h0 : d = 0
 · subst h0
   rw [if_pos rfl]
   unfold onAx
   rw [Int.zero_mul, Int.add_zero]
   by_cases h : 0 < lo - o ∨ hi - o < 0
   · rw [if_pos h]
     unfold Inn
     dsimp only
     constructor
     · rintro ⟨g1, g2⟩; have := g2 (by omega); omega
     · rintro ⟨g1, g2⟩
       exfalso
       rcases h with h | h
       · have := Int.mul_pos h (show 0 < q by omega); omega
       · have := Int.mul_pos (show 0 < -(hi - o) by omega) (show 0 < q by omega)
         rw [Int.neg_mul] at this
         omega
   · rw [if_neg h]
     unfold Inn
     dsimp only
     have g1 := Int.mul_le_mul_of_nonneg_right (show lo - o ≤ 0 by omega) (show 0 ≤ q by omega)
     have g2 := Int.mul_le_mul_of_nonneg_right (show 0 ≤ hi - o by omega) (show 0 ≤ q by omega)
     constructor
     · intro _; omega
     · intro _; exact ⟨by omega, fun k => by omega⟩
 · rw [if_neg h0]
   have e3 : p * d = d * p := Int.mul_comm ..
   by_cases h : d < 0
   · rw [if_pos h]
     unfold Inn onAx
     dsimp only
     rw [Int.neg_mul, Int.neg_mul, Int.mul_neg]
     constructor
     · rintro ⟨g1, g2⟩; have := g2 (by omega); omega
     · rintro ⟨g1, g2⟩; exact ⟨by omega, fun _ => by omega⟩
   · rw [if_neg h]
     unfold Inn onAx
     dsimp only
     constructor
     · rintro ⟨g1, g2⟩; have := g2 (by omega); omega
     · rintro ⟨g1, g2⟩; exact ⟨by omega, fun _ => by omega⟩
theorem btw_ok {lo hi d : Int} : 1 ≤ (btw lo hi d).1.2 := by
 unfold btw
 split
 · split <;> simp
 · split
   · dsimp only; omega
   · dsimp only; omega
theorem btw_ints {lo hi d : Int} (h1 : -4194304 ≤ lo ∧ lo ≤ 4194304) (h2 : -4194304 ≤ hi ∧ hi ≤ 4194304) (h3 : -4194304 ≤ d ∧ d ≤ 4194304) : ivInts (btw lo hi d) := by
 unfold btw
 split
 · split <;> (unfold ivInts I64; simp)
 · split <;> (unfold ivInts I64; dsimp only; omega)
def ivs (b : Bx) (o d : T3) : List Iv := [btw (b.1.1 - o.1) (b.2.1 - o.1) d.1, btw (b.1.2.1 - o.2.1) (b.2.2.1 - o.2.1) d.2.1, btw (b.1.2.2 - o.2.2) (b.2.2.2 - o.2.2) d.2.2]
theorem ivs_ok {b : Bx} {o d : T3} : ∀ x ∈ ivs b o d, 1 ≤ x.1.2 := by
 intro x hx
 simp only [ivs, List.mem_cons, List.not_mem_nil, or_false] at hx
 rcases hx with rfl | rfl | rfl <;> exact btw_ok
theorem ivs_ints {b : Bx} {o d : T3} (hb : bRight b = true) (ho : nrT o = true) (hd : nrT d = true) : ∀ x ∈ ivs b o d, ivInts x := by
 rw [z10, z0r, z0r] at hb
 rw [z0r] at ho hd
 intro x hx
 simp only [ivs, List.mem_cons, List.not_mem_nil, or_false] at hx
 rcases hx with rfl | rfl | rfl <;> exact btw_ints (by omega) (by omega) (by omega)
theorem hits_iff {b : Bx} {o d : T3} {n m : Int} : hits b o d n m ↔ ivEmpty (ivFold ((0, 1), (n, m)) (ivs b o d)) = false := by
 have k0 : 1 ≤ (((0, 1), (n, m)) : Iv).1.2 := by simp
 have k1 := ivShared_ok k0 (btw_ok (lo := b.1.1 - o.1) (hi := b.2.1 - o.1) (d := d.1))
 have k2 := ivShared_ok k1 (btw_ok (lo := b.1.2.1 - o.2.1) (hi := b.2.2.1 - o.2.1) (d := d.2.1))
 have k3 := ivShared_ok k2 (btw_ok (lo := b.1.2.2 - o.2.2) (hi := b.2.2.2 - o.2.2) (d := d.2.2))
 show _ ↔ ivEmpty (ivShared (ivShared (ivShared ((0, 1), (n, m)) _) _) _) = false
 rw [empty_iff k3]
 unfold hits
 have one : ∀ p q : Int, 1 ≤ q → (Inn ((0, 1), (n, m)) p q ↔ 0 ≤ p ∧ (1 ≤ m → p * m ≤ n * q)) := fun p q hq => by
  unfold Inn; dsimp only; rw [Int.zero_mul, Int.mul_one]
 constructor
 · rintro ⟨p, q, hq, hp, hm, h1, h2, h3⟩
   refine ⟨p, q, hq, ?_⟩
   rw [inn_shared k2 btw_ok hq, inn_shared k1 btw_ok hq, inn_shared k0 btw_ok hq, one p q hq, inn_btw hp hq, inn_btw hp hq, inn_btw hp hq]
   exact ⟨⟨⟨⟨hp, hm⟩, h1⟩, h2⟩, h3⟩
 · rintro ⟨p, q, hq, h⟩
   rw [inn_shared k2 btw_ok hq, inn_shared k1 btw_ok hq, inn_shared k0 btw_ok hq, one p q hq] at h
   obtain ⟨⟨⟨⟨hp, hm⟩, h1⟩, h2⟩, h3⟩ := h
   rw [inn_btw hp hq] at h1 h2 h3
   exact ⟨p, q, hq, hp, hm, h1, h2, h3⟩
theorem bHit_no {b : Bx} {o d : T3} {n m : Int} (h : ¬ (bRight b = true ∧ nrT o = true ∧ nrT d = true)) : bHit b o d n m = false := by
 cases g : bHit b o d n m with
 | false => rfl
 | true => have := bHit_iff.1 g; exact (h ⟨this.1, this.2.1, this.2.2.1⟩).elim
theorem bHit_yes {b : Bx} {o d : T3} {n m : Int} (hb : bRight b = true) (ho : nrT o = true) (hd : nrT d = true) : bHit b o d n m = !(ivEmpty (ivFold ((0, 1), (n, m)) (ivs b o d))) := by
 rw [Bool.eq_iff_iff, bHit_iff, hits_iff]
 simp [hb, ho, hd]
theorem bHit_stop {b : Bx} {o d : T3} {n m : Int} {pre rest : List Iv} (h : ivs b o d = pre ++ rest) (he : ivEmpty (ivFold ((0, 1), (n, m)) pre) = true) (k : 1 ≤ (ivFold ((0, 1), (n, m)) pre).1.2) : bHit b o d n m = false := by
 by_cases hc : bRight b = true ∧ nrT o = true ∧ nrT d = true
 · rw [bHit_yes hc.1 hc.2.1 hc.2.2, h]
   have : ivFold ((0, 1), (n, m)) (pre ++ rest) = ivFold (ivFold ((0, 1), (n, m)) pre) rest := by unfold ivFold; rw [List.foldl_append]
   rw [this, empty_fold k (fun x hx => ivs_ok (b := b) (o := o) (d := d) x (by rw [h]; simp [hx])) he]
   rfl
 · exact bHit_no hc
theorem ivFold_ok {l : List Iv} : ∀ {i : Iv}, 1 ≤ i.1.2 → (∀ x ∈ l, 1 ≤ x.1.2) → 1 ≤ (ivFold i l).1.2 := by
 induction l with
 | nil => intro i h _; exact h
 | cons x l ih => intro i h hl; exact ih (ivShared_ok h (hl x (by simp))) (fun y hy => hl y (by simp [hy]))
theorem ivFold_ints {l : List Iv} : ∀ {i : Iv}, ivInts i → (∀ x ∈ l, ivInts x) → ivInts (ivFold i l) := by
 induction l with
 | nil => intro i h _; exact h
 | cons x l ih => intro i h hl; exact ih (ivShared_ints h (hl x (by simp))) (fun y hy => hl y (by simp [hy]))
end
end
section
section
open Go.RowKit
def I3 (v : T3) : Prop := I64 v.1 ∧ I64 v.2.1 ∧ I64 v.2.2
def plc (v : T3) : Bool := wi 524288 v.1 v.2.1 v.2.2
theorem z0a {v : T3} : plc v = true ↔ -524288 ≤ v.1 ∧ v.1 ≤ 524288 ∧ -524288 ≤ v.2.1 ∧ v.2.1 ≤ 524288 ∧ -524288 ≤ v.2.2 ∧ v.2.2 ≤ 524288 := by unfold plc; exact wi_iff
def pl3 (a b c : T3) : Bool := plc a && (plc b && plc c)
theorem pl3_iff {a b c : T3} : pl3 a b c = true ↔ plc a = true ∧ plc b = true ∧ plc c = true := by unfold pl3; simp
def sbT (u v : T3) : T3 := (u.1 - v.1, u.2.1 - v.2.1, u.2.2 - v.2.2)
def crX (u v : T3) : T3 := (u.2.1 * v.2.2 - u.2.2 * v.2.1, u.2.2 * v.1 - u.1 * v.2.2, u.1 * v.2.1 - u.2.1 * v.1)
def vlX (u v w : T3) : Int := u.1 * (v.2.1 * w.2.2 - v.2.2 * w.2.1) + u.2.1 * (v.2.2 * w.1 - v.1 * w.2.2) + u.2.2 * (v.1 * w.2.1 - v.2.1 * w.1)
def upsT (a b c : T3) : T3 := crX (sbT b a) (sbT c a)
def isZ (u : T3) : Bool := decide (u.1 = 0 ∧ u.2.1 = 0 ∧ u.2.2 = 0)
def tFlat (a b c : T3) : Bool := !(pl3 a b c) || isZ (upsT a b c)
def tFin (x y z n : Int) : (Int × Int) × Bool := if x < 0 ∨ y < 0 ∨ z < 0 ∨ x + y + z = 0 ∨ n ≤ 0 then ((0, 0), false) else ((n, x + y + z), true)
def tG (x y z n : Int) : (Int × Int) × Bool := if x ≤ 0 ∧ y ≤ 0 ∧ z ≤ 0 then tFin (-x) (-y) (-z) (-n) else tFin x y z n
def tHit (a b c o d : T3) : (Int × Int) × Bool :=
 if pl3 a b c = true ∧ plc o = true ∧ nrT d = true then tG (vlX d (sbT b o) (sbT c o)) (vlX d (sbT c o) (sbT a o)) (vlX d (sbT a o) (sbT b o)) (vlX (sbT a o) (sbT b o) (sbT c o)) else ((0, 0), false)
theorem tFin_rot (x y z n : Int) : tFin y z x n = tFin x y z n := by
 unfold tFin
 by_cases h : x < 0 ∨ y < 0 ∨ z < 0 ∨ x + y + z = 0 ∨ n ≤ 0
 · rw [if_pos h, if_pos (by omega)]
 · rw [if_neg h, if_neg (by omega), show y + z + x = x + y + z by omega]
theorem tG_rot (x y z n : Int) : tG y z x n = tG x y z n := by
 unfold tG
 rw [tFin_rot x y z n, tFin_rot (-x) (-y) (-z) (-n)]
 by_cases h : x ≤ 0 ∧ y ≤ 0 ∧ z ≤ 0
 · rw [if_pos h, if_pos ⟨h.2.1, h.2.2, h.1⟩]
 · rw [if_neg h, if_neg (fun e => h ⟨e.2.2, e.1, e.2.1⟩)]
theorem vols_sum (a b c o d : T3) : vlX d (sbT b o) (sbT c o) + vlX d (sbT c o) (sbT a o) + vlX d (sbT a o) (sbT b o) = vlX d (sbT b a) (sbT c a) := by
 unfold vlX sbT
 dsimp only
 grind
end
end
section
section
open Go.RowKit
theorem z05 {x a : Int} (hx : -524288 ≤ x ∧ x ≤ 524288) (ha : -524288 ≤ a ∧ a ≤ 524288) : vsub x a = x - a := by
 unfold vsub sat
 rw [if_neg (by omega), if_neg (by omega), if_neg (by omega), if_neg (by omega)]
 omega
def uprT (a b c : T3) : T3 := if pl3 a b c = true then upsT a b c else (0, 0, 0)
theorem nr_sb {a b : T3} (ha : plc a = true) (hb : plc b = true) : nrT (sbT a b) = true := by
 have q1 := z0a.1 ha
 have q2 := z0a.1 hb
 unfold nrT sbT
 rw [z0t]
 dsimp only
 omega
theorem vcr_X {u v : T3} (hu : nrT u = true) (hv : nrT v = true) : vcr u.1 u.2.1 u.2.2 v.1 v.2.1 v.2.2 = crX u v := by
 unfold vcr crX
 unfold nrT at hu hv
 rw [if_pos ⟨hu, hv⟩]
theorem vvol_X {u v w : T3} (hu : nrT u = true) (hv : nrT v = true) (hw : nrT w = true) : vvol u.1 u.2.1 u.2.2 v.1 v.2.1 v.2.2 w.1 w.2.1 w.2.2 = vlX u v w := by
 unfold vvol vlX
 unfold nrT at hu hv hw
 rw [if_pos ⟨hu, hv, hw⟩]
theorem flat_upr (a b c : T3) : tFlat a b c = isZ (uprT a b c) := by
 unfold tFlat uprT
 cases pl3 a b c <;> rfl
theorem isZ_eq {u : T3} (h : isZ u = true) : u = (0, 0, 0) := by
 unfold isZ at h
 have h := of_decide_eq_true h
 obtain ⟨x, y, z⟩ := u
 obtain ⟨rfl, rfl, rfl⟩ := h
 rfl
theorem crX_small {u v : T3} (hu : nrT u = true) (hv : nrT v = true) : (-2199023255552 ≤ (crX u v).1 ∧ (crX u v).1 ≤ 2199023255552) ∧ (-2199023255552 ≤ (crX u v).2.1 ∧ (crX u v).2.1 ≤ 2199023255552) ∧ (-2199023255552 ≤ (crX u v).2.2 ∧ (crX u v).2.2 ≤ 2199023255552) := by
 unfold nrT at hu hv
 rw [z0t] at hu hv
 unfold crX
 have p1 := z0n (x := u.2.1) (a := v.2.2) (by omega) (by omega)
 have p2 := z0n (x := u.2.2) (a := v.2.1) (by omega) (by omega)
 have p3 := z0n (x := u.2.2) (a := v.1) (by omega) (by omega)
 have p4 := z0n (x := u.1) (a := v.2.2) (by omega) (by omega)
 have p5 := z0n (x := u.1) (a := v.2.1) (by omega) (by omega)
 have p6 := z0n (x := u.2.1) (a := v.1) (by omega) (by omega)
 dsimp only
 omega
def srd (x y z : Int) : Bool := !((decide (x < 0) || decide (y < 0)) || decide (z < 0)) || !((decide (0 < x) || decide (0 < y)) || decide (0 < z))
theorem srd_iff {x y z : Int} : srd x y z = true ↔ (0 ≤ x ∧ 0 ≤ y ∧ 0 ≤ z) ∨ (x ≤ 0 ∧ y ≤ 0 ∧ z ≤ 0) := by
 unfold srd
 simp only [Bool.or_eq_true, Bool.not_eq_true', Bool.or_eq_false_iff, decide_eq_false_iff_not]
 omega
def tMk (x y z n s : Int) : (Int × Int) × Bool := if fmakeOk n s = true ∧ 0 < (fmake n s).1 ∧ srd x y z = true then (fmake n s, true) else ((0, 0), false)
theorem tG_mk {x y z n : Int} (hn : -6917529027641081856 ≤ n ∧ n ≤ 6917529027641081856) (hs : -6917529027641081856 ≤ x + y + z ∧ x + y + z ≤ 6917529027641081856) : tG x y z n = tMk x y z n (x + y + z) := by
 have hsr := @srd_iff x y z
 by_cases h0 : x + y + z = 0
 · have hk : fmakeOk n (x + y + z) = false := zf (by omega)
   have e2 : tMk x y z n (x + y + z) = ((0, 0), false) := by unfold tMk; rw [if_neg (fun e => by rw [hk] at e; cases e.1)]
   rw [e2]
   unfold tG tFin
   by_cases ha : x ≤ 0 ∧ y ≤ 0 ∧ z ≤ 0
   · rw [if_pos ha, if_pos (by omega)]
   · rw [if_neg ha, if_pos (by omega)]
 · have hk : fmakeOk n (x + y + z) = true := zt (by omega)
   have hf : fmake n (x + y + z) = if x + y + z < 0 then (-n, -(x + y + z)) else (n, x + y + z) := by unfold fmake; rw [if_pos hk]
   by_cases hneg : x + y + z < 0
   · rw [if_pos hneg] at hf
     by_cases ha : x ≤ 0 ∧ y ≤ 0 ∧ z ≤ 0
     · by_cases hm : 0 < -n
       · have e2 : tMk x y z n (x + y + z) = ((-n, -(x + y + z)), true) := by unfold tMk; rw [hf, if_pos ⟨hk, hm, hsr.2 (.inr ha)⟩]
         rw [e2]
         unfold tG tFin
         rw [if_pos ha, if_neg (by omega), show -x + -y + -z = -(x + y + z) by omega]
       · have e2 : tMk x y z n (x + y + z) = ((0, 0), false) := by unfold tMk; rw [hf, if_neg (fun e => hm e.2.1)]
         rw [e2]
         unfold tG tFin
         rw [if_pos ha, if_pos (by omega)]
     · have e2 : tMk x y z n (x + y + z) = ((0, 0), false) := by
        unfold tMk
        rw [if_neg]
        intro e
        have := hsr.1 e.2.2
        omega
       rw [e2]
       unfold tG tFin
       rw [if_neg ha, if_pos (by omega)]
   · rw [if_neg hneg] at hf
     have ha : ¬ (x ≤ 0 ∧ y ≤ 0 ∧ z ≤ 0) := by omega
     by_cases hb : 0 ≤ x ∧ 0 ≤ y ∧ 0 ≤ z
     · by_cases hm : 0 < n
       · have e2 : tMk x y z n (x + y + z) = ((n, x + y + z), true) := by unfold tMk; rw [hf, if_pos ⟨hk, hm, hsr.2 (.inl hb)⟩]
         rw [e2]
         unfold tG tFin
         rw [if_neg ha, if_neg (by omega)]
       · have e2 : tMk x y z n (x + y + z) = ((0, 0), false) := by unfold tMk; rw [hf, if_neg (fun e => hm e.2.1)]
         rw [e2]
         unfold tG tFin
         rw [if_neg ha, if_pos (by omega)]
     · have e2 : tMk x y z n (x + y + z) = ((0, 0), false) := by
        unfold tMk
        rw [if_neg]
        intro e
        have := hsr.1 e.2.2
        omega
       rw [e2]
       unfold tG tFin
       rw [if_neg ha, if_pos (by omega)]
theorem vlX_61 {u v w : T3} (hu : nrT u = true) (hv : nrT v = true) (hw : nrT w = true) : -6917529027641081856 ≤ vlX u v w ∧ vlX u v w ≤ 6917529027641081856 := by
 obtain ⟨h1, h2, h3⟩ := crX_small hv hw
 unfold nrT at hu
 rw [z0t] at hu
 unfold crX at h1 h2 h3
 dsimp only at h1 h2 h3
 unfold vlX
 have p1 := z0y (x := u.1) (by omega) h1
 have p2 := z0y (x := u.2.1) (by omega) h2
 have p3 := z0y (x := u.2.2) (by omega) h3
 omega
theorem vvol_61 (x y z a b c d e f : Int) : -6917529027641081856 ≤ vvol x y z a b c d e f ∧ vvol x y z a b c d e f ≤ 6917529027641081856 := by
 by_cases h : vnear x y z = true ∧ vnear a b c = true ∧ vnear d e f = true
 · have := vlX_61 (u := (x, y, z)) (v := (a, b, c)) (w := (d, e, f)) h.1 h.2.1 h.2.2
   rw [← vvol_X (u := (x, y, z)) (v := (a, b, c)) (w := (d, e, f)) h.1 h.2.1 h.2.2] at this
   exact this
 · unfold vvol
   rw [if_neg h]
   omega
theorem vols_den (a b c o d : T3) : vlX (sbT b a) (sbT c a) d = vlX d (sbT a o) (sbT b o) + vlX d (sbT b o) (sbT c o) + vlX d (sbT c o) (sbT a o) := by
 unfold vlX sbT
 dsimp only
 grind
theorem vols_num (a b c o : T3) : vlX (sbT b a) (sbT c a) (sbT a o) = vlX (sbT a o) (sbT b o) (sbT c o) := by
 unfold vlX sbT
 dsimp only
 grind
theorem tHit_mk {a b c o d : T3} (h : pl3 a b c = true) (ho : plc o = true) (hd : nrT d = true) :
  tHit a b c o d = tMk (vlX d (sbT a o) (sbT b o)) (vlX d (sbT b o) (sbT c o)) (vlX d (sbT c o) (sbT a o)) (vlX (sbT b a) (sbT c a) (sbT a o)) (vlX (sbT b a) (sbT c a) d) := by
 obtain ⟨h1, h2, h3⟩ := pl3_iff.1 h
 unfold tHit
 rw [if_pos ⟨h, ho, hd⟩, vols_num, vols_den a b c o d, ← tG_mk (vlX_61 (nr_sb h1 ho) (nr_sb h2 ho) (nr_sb h3 ho)) (by rw [← vols_den]; exact vlX_61 (nr_sb h2 h1) (nr_sb h3 h1) hd)]
 exact tG_rot _ _ _ _
theorem tHit_far {a b c o d : T3} (hd : nrT d = false) : tHit a b c o d = ((0, 0), false) := by
 unfold tHit
 rw [if_neg (by rw [hd]; simp)]
theorem tHit_no {a b c o d : T3} (h : (pl3 a b c && plc o) = false) : tHit a b c o d = ((0, 0), false) := by
 unfold tHit
 rw [if_neg]
 rintro ⟨h1, h2, h3⟩
 rw [h1, h2] at h
 cases h
def allp (V : Nat → T3) : Nat → Bool
 | 0 => true
 | k + 1 => allp V k && plc (V k)
theorem allp_no {V : Nat → T3} {k : Nat} (h : plc (V k) = false) : ∀ n, k < n → allp V n = false
 | 0, hk => absurd hk (by omega)
 | n + 1, hk => by
  unfold allp
  by_cases e : k = n
  · subst e; rw [h, Bool.and_false]
  · rw [allp_no h n (by omega), Bool.false_and]
def rw3 (u v t : T3) : Nat → T3 | 0 => u | 1 => v | _ => t
def rw4 (u v t s : T3) : Nat → T3 | 0 => u | 1 => v | 2 => t | _ => s
theorem allp3 (u v t : T3) : allp (rw3 u v t) 3 = pl3 u v t := by
 show (((true && plc u) && plc v) && plc t) = _
 unfold pl3
 cases plc u <;> cases plc v <;> cases plc t <;> rfl
theorem allp4 (u v t s : T3) : allp (rw4 u v t s) 4 = (pl3 u v t && plc s) := by
 show ((((true && plc u) && plc v) && plc t) && plc s) = _
 unfold pl3
 cases plc u <;> cases plc v <;> cases plc t <;> cases plc s <;> rfl
end
end
end Go.Proofs.Sky
