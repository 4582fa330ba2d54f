/-
  No cell of these rows narrows 'for every input' (looked for: loops, veiled, ifaces, maps, wideKeys, modest, calm, conditions, laid).
  DERIVED. THE GIVEN ROWS OF THIS SEAT. 3 by the template 'for every input the law returns true; each argument reads behind the call as it read before'; 0 by the template 'total and deterministic' (their statements: YtppejnfiphkmnaaTotals.lean).
  GIVEN WITH THE SEED: the statements are not yours to turn. If you find one false, say at which input.
  Laid BY PROGRAM, IN A SANDBOX (cutbox-rows.mjs): the forced cells as the released guide's own fill.sh prints them over the translation 3340f61ea0199fb3… (all of the seat's roots in one cut). By AI agents, Wed Nov 11 2026. No macro, syntax, notation, axiom, sorry.
-/
import Derived.Test.YtppejnfiphkmnaaChecked
import GoSem.Claim
import GoSem.ClaimJoined
import GoSem.ClaimMapViews
import Derived.JoinedTies
import Derived.KernelRfl
namespace Go.Proofs.Ytppejnfiphkmnaa
/- THE CELL 'sum', in the pinned program and in every row, IS THE sha256 OF THE DUMP (.gsa) THAT YtppejnfiphkmnaaProg.lean LOADS. Nothing in Lean hashes anything: it is a label: what it is worth is what the hold of that sum in a sandbox is worth. -/
noncomputable def Try.pinned : Pinned := { name := "ytppejnfiphkmnaa", sum := "3340f61ea0199fb3a65527e646fae141ae0168c405cad7284d040178e304e55d", checked := Try.checked }
namespace Rows
def none {H : Type} : Left H := { results := [], args := [] }

/-- 'skylightlaw12.BallTells': WHATEVER THE INPUT: true; the input reads as it did. -/
def ballTellsSpec : ChangeSpec := { name := "ballTells", fn := fun _ => fun
  | [d1, d2, d3, d4] => { results := [.lit (.bool true)], args := [d1, d2, d3, d4] }
  | _ => none }
def ballTellsRow : OpenClaim := { program := "ytppejnfiphkmnaa", sum := "3340f61ea0199fb3a65527e646fae141ae0168c405cad7284d040178e304e55d", func := "skylight/skylightlaw12.BallTells", spec := "ballTells", inPlace := ["math/bits.Add64"], unfollowed := true, recurses := true, apart := false }
def BallTellsSaid : Prop := ballTellsRow.holds Try.pinned (OpenSpec.ofChange ballTellsSpec)

/-- ITS FALSE NEIGHBOUR: 'it returns false'. Refute it at one input. -/
def ballTellsWrong : ChangeSpec := { name := "ballTells", fn := fun _ => fun
  | [d1, d2, d3, d4] => { results := [.lit (.bool false)], args := [d1, d2, d3, d4] }
  | _ => none }
def BallTellsWrongFalsely : Prop := ballTellsRow.holds Try.pinned (OpenSpec.ofChange ballTellsWrong)

/-- 'skylightlaw12.BallMet': WHATEVER THE INPUT: true; the input reads as it did. -/
def ballMetSpec : ChangeSpec := { name := "ballMet", fn := fun _ => fun
  | [d1, d2, d3] => { results := [.lit (.bool true)], args := [d1, d2, d3] }
  | _ => none }
def ballMetRow : OpenClaim := { program := "ytppejnfiphkmnaa", sum := "3340f61ea0199fb3a65527e646fae141ae0168c405cad7284d040178e304e55d", func := "skylight/skylightlaw12.BallMet", spec := "ballMet", inPlace := ["math/bits.Add64"], unfollowed := true, recurses := true, apart := false }
def BallMetSaid : Prop := ballMetRow.holds Try.pinned (OpenSpec.ofChange ballMetSpec)

/-- ITS FALSE NEIGHBOUR: 'it returns false'. Refute it at one input. -/
def ballMetWrong : ChangeSpec := { name := "ballMet", fn := fun _ => fun
  | [d1, d2, d3] => { results := [.lit (.bool false)], args := [d1, d2, d3] }
  | _ => none }
def BallMetWrongFalsely : Prop := ballMetRow.holds Try.pinned (OpenSpec.ofChange ballMetWrong)

/-- 'skylightlaw12.BallThrough': WHATEVER THE INPUT: true; the input reads as it did. -/
def ballThroughSpec : ChangeSpec := { name := "ballThrough", fn := fun _ => fun
  | [d1, d2, d3] => { results := [.lit (.bool true)], args := [d1, d2, d3] }
  | _ => none }
def ballThroughRow : OpenClaim := { program := "ytppejnfiphkmnaa", sum := "3340f61ea0199fb3a65527e646fae141ae0168c405cad7284d040178e304e55d", func := "skylight/skylightlaw12.BallThrough", spec := "ballThrough", inPlace := ["math/bits.Add64"], unfollowed := true, recurses := true, apart := false }
def BallThroughSaid : Prop := ballThroughRow.holds Try.pinned (OpenSpec.ofChange ballThroughSpec)

/-- ITS FALSE NEIGHBOUR: 'it returns false'. Refute it at one input. -/
def ballThroughWrong : ChangeSpec := { name := "ballThrough", fn := fun _ => fun
  | [d1, d2, d3] => { results := [.lit (.bool false)], args := [d1, d2, d3] }
  | _ => none }
def BallThroughWrongFalsely : Prop := ballThroughRow.holds Try.pinned (OpenSpec.ofChange ballThroughWrong)

/- THE SECOND FORM. 'bulk': how many values and letters a reading holds, each counted each time it is reached (what is shared counts as often as it is met; a slice's spare places count too). A statement '..UptoSaid' is the law's where the arguments, and the package variables that the reading takes, are together of bulk at most 1048576: NARROWER than '..Said'. Prove '..Said' where nothing that the law and all that it calls make is longer than what came in: it says more and counts as full. Else prove '..UptoSaid'. A law counts once. -/
mutual
def uptoBulk {H : Type} : DataW H → Nat
  | .lit (.string bytes) => bytes.length + 1
  | .lit _ => 1
  | .nil => 1
  | .ptr d => uptoBulk d + 1
  | .slice elems spare => uptoBulkAll elems + uptoBulkAll spare + 1
  | .agg parts => uptoBulkAll parts + 1
  | .iface _ d => uptoBulk d + 1
  | .map entries => uptoBulkEntries entries + 1
  | .held _ => 1
def uptoBulkAll {H : Type} : List (DataW H) → Nat
  | [] => 0
  | d :: r => uptoBulk d + uptoBulkAll r
def uptoBulkEntries {H : Type} : List (Lit × DataW H) → Nat
  | [] => 0
  | x :: r => uptoBulkEntry x + uptoBulkEntries r
def uptoBulkEntry {H : Type} : Lit × DataW H → Nat
  | (.string bytes, d) => bytes.length + uptoBulk d + 1
  | (_, d) => uptoBulk d + 1
 end
def uptoSmall : (H : Type) → List (DataW H) → Bool := fun _ ds => decide (uptoBulkAll ds ≤ 1048576)
def OpenSpec.upto (s : _root_.Go.ChangeSpec) : _root_.Go.OpenSpec := { _root_.Go.OpenSpec.ofChange s with cond := some uptoSmall }

/-- 'skylightlaw12.BallTells', WHERE WHAT IT READS IS OF BULK AT MOST 1048576: true; the input reads as it did. -/
def ballTellsUptoRow : OpenClaim := { program := "ytppejnfiphkmnaa", sum := "3340f61ea0199fb3a65527e646fae141ae0168c405cad7284d040178e304e55d", func := "skylight/skylightlaw12.BallTells", spec := "ballTells", inPlace := ["math/bits.Add64"], unfollowed := true, recurses := true, apart := false, narrowed := true }
def BallTellsUptoSaid : Prop := ballTellsUptoRow.holds Try.pinned (OpenSpec.upto ballTellsSpec)

/-- 'skylightlaw12.BallMet', WHERE WHAT IT READS IS OF BULK AT MOST 1048576: true; the input reads as it did. -/
def ballMetUptoRow : OpenClaim := { program := "ytppejnfiphkmnaa", sum := "3340f61ea0199fb3a65527e646fae141ae0168c405cad7284d040178e304e55d", func := "skylight/skylightlaw12.BallMet", spec := "ballMet", inPlace := ["math/bits.Add64"], unfollowed := true, recurses := true, apart := false, narrowed := true }
def BallMetUptoSaid : Prop := ballMetUptoRow.holds Try.pinned (OpenSpec.upto ballMetSpec)

/-- 'skylightlaw12.BallThrough', WHERE WHAT IT READS IS OF BULK AT MOST 1048576: true; the input reads as it did. -/
def ballThroughUptoRow : OpenClaim := { program := "ytppejnfiphkmnaa", sum := "3340f61ea0199fb3a65527e646fae141ae0168c405cad7284d040178e304e55d", func := "skylight/skylightlaw12.BallThrough", spec := "ballThrough", inPlace := ["math/bits.Add64"], unfollowed := true, recurses := true, apart := false, narrowed := true }
def BallThroughUptoSaid : Prop := ballThroughUptoRow.holds Try.pinned (OpenSpec.upto ballThroughSpec)

end Rows
end Go.Proofs.Ytppejnfiphkmnaa
