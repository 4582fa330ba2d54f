/- Texts in a walk: their length, bytes, and parts. Imports nothing of the translation. -/
import Derived.WalkKit
import Derived.Laws.Strings
import Derived.Laws.Strings2
import Derived.Laws.Strings3
import Derived.Laws.Concat
import Derived.Laws.RangeAny
import Derived.RangeFuncCalls
namespace Go.Proofs.Sky
open Go Go.RowKit
set_option linter.unusedVariables false

section
variable {P : Program} {t : TypeId} {s : ByteArray} {l : List UInt8}

theorem size18 (hs : s = ⟨l.toArray⟩) : s.size = l.length := by subst hs; rw [ByteArray.size_mk']; simp

theorem len18 (ht : P.underlying t = some .string) (hs : s = ⟨l.toArray⟩) (ty : TypeId) (w : World) : (Builtin.len_ #[t] ty #[.string s]).run P w = .ok (.int .i64 (l.length : Int)) w := by
  rw [run_len_string w t ty s ht, size18 hs]
  rfl

theorem idx18 (ht : P.underlying t = some .string) (hs : s = ⟨l.toArray⟩) (k : Nat) (c : UInt8) (h : l[k]? = some c) (w : World) : (Instr.index t (.string s) (.int .i64 (k : Int))).run P w = .ok (.int .u8 (c.toNat : Int)) w := by
  have hk : k < l.length := (List.getElem?_eq_some_iff.1 h).1
  have hz := size18 hs
  have hc : 0 ≤ (k : Int) ∧ (k : Int) < s.size := by omega
  rw [run_index_string w t s .i64 (k : Int) ht, dif_pos hc]
  have e : s[(k : Int).toNat]'(by omega) = c := by
    subst hs
    have h2 := (List.getElem?_eq_some_iff.1 h).2
    exact h2
  rw [e]

theorem slc18 (ht : P.underlying t = some .string) (hs : s = ⟨l.toArray⟩) (a b : Nat) (h1 : a ≤ b) (h2 : b ≤ l.length) (w : World) :
    (Instr.slice t (.string s) (some (.int .i64 (a : Int))) (some (.int .i64 (b : Int))) none).run P w = .ok (.string ⟨((l.drop a).take (b - a)).toArray⟩) w := by
  have hz := size18 hs
  rw [run_slice_string w t s .i64 .i64 (a : Int) (b : Int) ht (by omega) (by omega) (by omega)]
  subst hs
  rw [show (a : Int).toNat = a by omega, show (b : Int).toNat = b by omega, ByteArray.extract_mk]

theorem slf18 (ht : P.underlying t = some .string) (hs : s = ⟨l.toArray⟩) (a : Nat) (h2 : a ≤ l.length) (w : World) :
    (Instr.slice t (.string s) (some (.int .i64 (a : Int))) none none).run P w = .ok (.string ⟨(l.drop a).toArray⟩) w := by
  have hz := size18 hs
  rw [run_slice_string_from_if w t s .i64 (a : Int) ht, if_pos (by omega), hz]
  subst hs
  rw [show (a : Int).toNat = a by omega, ByteArray.extract_mk]
  rw [List.take_of_length_le (by simp)]

theorem eql18 {a b : List UInt8} (t : TypeId) (w : World) : (binOp .eql t (.string ⟨a.toArray⟩) (.string ⟨b.toArray⟩)).run P w = .ok (.bool (a == b)) w := by
  rw [binOp_string_eql, ByteArray.toList_mk, ByteArray.toList_mk]
  rfl

theorem plus18 (a b : List UInt8) (h : a.length + b.length ≤ 8388608) (w : World) : (Op.stringOp .add ⟨a.toArray⟩ ⟨b.toArray⟩).run P w = .ok (.string ⟨(a ++ b).toArray⟩) w := by
  have := run_string_add_sum (P := P) (w := w) ⟨a.toArray⟩ ⟨b.toArray⟩ (by rw [ByteArray.size_mk', ByteArray.size_mk']; simp; omega)
  rw [this, ByteArray.mk_append_mk]

/-- The next rune of a text, wherever its iterator lies. -/
theorem next18 {w : World} {g pos : Nat} (hg : w.heap[g]? = some (.stringIter s pos)) (h : pos < s.size) (ty : TypeId) :
    (Instr.next (.pointer (some ⟨g, 0, none⟩)) true ty).run P w = .ok (.tuple #[.bool true, .int .i64 pos, .int .i32 (Utf8.decode s pos).1]) (w.putObj g (.stringIter s (pos + (Utf8.decode s pos).2))) := by
  simp only [Instr.next, getObj, setObj, Sem.run_bind, Sem.run, hg, Result.andThen, h, if_true]
  simp [goInt, World.putObj]
theorem last18 {w : World} {g pos : Nat} (hg : w.heap[g]? = some (.stringIter s pos)) (h : ¬ pos < s.size) (ty : TypeId) :
    (Instr.next (.pointer (some ⟨g, 0, none⟩)) true ty).run P w = .ok (.tuple #[.bool false]) w := by
  simp [Instr.next, getObj, Sem.run, hg, h]
end

end Go.Proofs.Sky
