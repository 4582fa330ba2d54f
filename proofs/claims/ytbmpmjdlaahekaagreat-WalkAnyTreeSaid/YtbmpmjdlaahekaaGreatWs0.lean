/- What the claim's texts say in short: a number as a value; what a call gives back. -/
import Derived.Below
import Derived.WalkKit
namespace Go.Proofs.Sky
open Go.RowKit
instance coeV : Coe Int Value := ⟨fun x => .int .i64 x⟩
instance coeN : Coe Nat Value := ⟨fun x => .int .i64 (x : Int)⟩
abbrev Rt (P : Program) (f : FuncId) (args : Array Value) (w : World) (v : Value) : Prop := Calls P f args w fun e w' => e = .returned v ∧ Below w.heap.size w w'
theorem wnm {P : Program} {c : Code} {Q : Exit → Act → World → Prop} {a : Act} {W : World} (h : ∀ V, V = W → c.wp P Q a V) : c.wp P Q a W := h W rfl
theorem zh {p : Prop} (h : p) : Hid p := h
theorem zf {p : Prop} [Decidable p] (h : ¬p) : decide p = false := decide_eq_false h
theorem zt {p : Prop} [Decidable p] (h : p) : decide p = true := decide_eq_true h
theorem zl {a b c : Nat} (h : a < b) (k : b ≤ c) : a < c := Nat.lt_of_lt_of_le h k
theorem nmd {α : Type} (x : α) : ∃ t, t = x := ⟨x, rfl⟩
end Go.Proofs.Sky
