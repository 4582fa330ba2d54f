/-
  No cell of these rows narrows 'for every input' (looked for: loops, veiled, ifaces, maps, wideKeys, modest, calm, conditions, laid).
  DERIVED. THE GIVEN ROWS OF THIS SEAT. 3 by the template 'for every input the law returns true; each argument reads behind the call as it read before'; 0 by the template 'total and deterministic' (their statements: YtbmpmjdlaahekaaGreatTotals.lean).
  GIVEN WITH THE SEED: the statements are not yours to turn. If you find one false, say at which input.
  Laid BY PROGRAM, IN A SANDBOX (cutbox-rows.mjs): the forced cells as the released guide's own fill.sh prints them over the translation 5d776d912170b69e… (all of the seat's roots in one cut). By AI agents, Wed Nov 11 2026. No macro, syntax, notation, axiom, sorry.
-/
import Derived.Test.YtbmpmjdlaahekaaGreatChecked
import GoSem.Claim
import GoSem.ClaimJoined
import GoSem.ClaimMapViews
import Derived.JoinedTies
import Derived.KernelRfl
namespace Go.Proofs.YtbmpmjdlaahekaaGreat
/- THE CELL 'sum', in the pinned program and in every row, IS THE sha256 OF THE DUMP (.gsa) THAT YtbmpmjdlaahekaaGreatProg.lean LOADS. Nothing in Lean hashes anything: it is a label: what it is worth is what the hold of that sum in a sandbox is worth. -/
noncomputable def Tryz.pinned : Pinned := { name := "ytbmpmjdlaahekaagreat", sum := "5d776d912170b69e30c70b74c1c1ee0f92c7a4018a63b092849523c150ab4afd", checked := Tryz.checked }
namespace Rows
def none {H : Type} : Left H := { results := [], args := [] }

/-- 'skylightlaw17.WalkMeets': WHATEVER THE INPUT: true; the input reads as it did. -/
def walkMeetsSpec : ChangeSpec := { name := "walkMeets", fn := fun _ => fun
  | [d1, d2, d3] => { results := [.lit (.bool true)], args := [d1, d2, d3] }
  | _ => none }
def walkMeetsRow : OpenClaim := { program := "ytbmpmjdlaahekaagreat", sum := "5d776d912170b69e30c70b74c1c1ee0f92c7a4018a63b092849523c150ab4afd", func := "skylight/skylightlaw17.WalkMeets", spec := "walkMeets", inPlace := ["math/bits.Add64"], unfollowed := true, recurses := true, apart := false }
def WalkMeetsSaid : Prop := walkMeetsRow.holds Tryz.pinned (OpenSpec.ofChange walkMeetsSpec)

/-- ITS FALSE NEIGHBOUR: 'it returns false'. Refute it at one input. -/
def walkMeetsWrong : ChangeSpec := { name := "walkMeets", fn := fun _ => fun
  | [d1, d2, d3] => { results := [.lit (.bool false)], args := [d1, d2, d3] }
  | _ => none }
def WalkMeetsWrongFalsely : Prop := walkMeetsRow.holds Tryz.pinned (OpenSpec.ofChange walkMeetsWrong)

/-- 'skylightlaw17.WalkAnyTree': WHATEVER THE INPUT: true; the input reads as it did. -/
def walkAnyTreeSpec : ChangeSpec := { name := "walkAnyTree", fn := fun _ => fun
  | [d1, d2, d3, d4] => { results := [.lit (.bool true)], args := [d1, d2, d3, d4] }
  | _ => none }
def walkAnyTreeRow : OpenClaim := { program := "ytbmpmjdlaahekaagreat", sum := "5d776d912170b69e30c70b74c1c1ee0f92c7a4018a63b092849523c150ab4afd", func := "skylight/skylightlaw17.WalkAnyTree", spec := "walkAnyTree", inPlace := ["math/bits.Add64"], unfollowed := true, recurses := true, apart := false }
def WalkAnyTreeSaid : Prop := walkAnyTreeRow.holds Tryz.pinned (OpenSpec.ofChange walkAnyTreeSpec)

/-- ITS FALSE NEIGHBOUR: 'it returns false'. Refute it at one input. -/
def walkAnyTreeWrong : ChangeSpec := { name := "walkAnyTree", fn := fun _ => fun
  | [d1, d2, d3, d4] => { results := [.lit (.bool false)], args := [d1, d2, d3, d4] }
  | _ => none }
def WalkAnyTreeWrongFalsely : Prop := walkAnyTreeRow.holds Tryz.pinned (OpenSpec.ofChange walkAnyTreeWrong)

/-- 'skylightlaw17.WalkClear': WHATEVER THE INPUT: true; the input reads as it did. -/
def walkClearSpec : ChangeSpec := { name := "walkClear", fn := fun _ => fun
  | [d1, d2, d3, d4] => { results := [.lit (.bool true)], args := [d1, d2, d3, d4] }
  | _ => none }
def walkClearRow : OpenClaim := { program := "ytbmpmjdlaahekaagreat", sum := "5d776d912170b69e30c70b74c1c1ee0f92c7a4018a63b092849523c150ab4afd", func := "skylight/skylightlaw17.WalkClear", spec := "walkClear", inPlace := ["math/bits.Add64"], unfollowed := true, recurses := true, apart := false }
def WalkClearSaid : Prop := walkClearRow.holds Tryz.pinned (OpenSpec.ofChange walkClearSpec)

/-- ITS FALSE NEIGHBOUR: 'it returns false'. Refute it at one input. -/
def walkClearWrong : ChangeSpec := { name := "walkClear", fn := fun _ => fun
  | [d1, d2, d3, d4] => { results := [.lit (.bool false)], args := [d1, d2, d3, d4] }
  | _ => none }
def WalkClearWrongFalsely : Prop := walkClearRow.holds Tryz.pinned (OpenSpec.ofChange walkClearWrong)

/- THE SECOND FORM. 'bulk': how many values and letters a reading holds, each counted each time it is reached (what is shared counts as often as it is met; a slice's spare places count too). A statement '..UptoSaid' is the law's where the arguments, and the package variables that the reading takes, are together of bulk at most 1048576: NARROWER than '..Said'. Prove '..Said' where nothing that the law and all that it calls make is longer than what came in: it says more and counts as full. Else prove '..UptoSaid'. A law counts once. -/
mutual
def uptoBulk {H : Type} : DataW H → Nat
  | .lit (.string bytes) => bytes.length + 1
  | .lit _ => 1
  | .nil => 1
  | .ptr d => uptoBulk d + 1
  | .slice elems spare => uptoBulkAll elems + uptoBulkAll spare + 1
  | .agg parts => uptoBulkAll parts + 1
  | .iface _ d => uptoBulk d + 1
  | .map entries => uptoBulkEntries entries + 1
  | .held _ => 1
def uptoBulkAll {H : Type} : List (DataW H) → Nat
  | [] => 0
  | d :: r => uptoBulk d + uptoBulkAll r
def uptoBulkEntries {H : Type} : List (Lit × DataW H) → Nat
  | [] => 0
  | x :: r => uptoBulkEntry x + uptoBulkEntries r
def uptoBulkEntry {H : Type} : Lit × DataW H → Nat
  | (.string bytes, d) => bytes.length + uptoBulk d + 1
  | (_, d) => uptoBulk d + 1
 end
def uptoSmall : (H : Type) → List (DataW H) → Bool := fun _ ds => decide (uptoBulkAll ds ≤ 1048576)
def OpenSpec.upto (s : _root_.Go.ChangeSpec) : _root_.Go.OpenSpec := { _root_.Go.OpenSpec.ofChange s with cond := some uptoSmall }

/-- 'skylightlaw17.WalkMeets', WHERE WHAT IT READS IS OF BULK AT MOST 1048576: true; the input reads as it did. -/
def walkMeetsUptoRow : OpenClaim := { program := "ytbmpmjdlaahekaagreat", sum := "5d776d912170b69e30c70b74c1c1ee0f92c7a4018a63b092849523c150ab4afd", func := "skylight/skylightlaw17.WalkMeets", spec := "walkMeets", inPlace := ["math/bits.Add64"], unfollowed := true, recurses := true, apart := false, narrowed := true }
def WalkMeetsUptoSaid : Prop := walkMeetsUptoRow.holds Tryz.pinned (OpenSpec.upto walkMeetsSpec)

/-- 'skylightlaw17.WalkAnyTree', WHERE WHAT IT READS IS OF BULK AT MOST 1048576: true; the input reads as it did. -/
def walkAnyTreeUptoRow : OpenClaim := { program := "ytbmpmjdlaahekaagreat", sum := "5d776d912170b69e30c70b74c1c1ee0f92c7a4018a63b092849523c150ab4afd", func := "skylight/skylightlaw17.WalkAnyTree", spec := "walkAnyTree", inPlace := ["math/bits.Add64"], unfollowed := true, recurses := true, apart := false, narrowed := true }
def WalkAnyTreeUptoSaid : Prop := walkAnyTreeUptoRow.holds Tryz.pinned (OpenSpec.upto walkAnyTreeSpec)

/-- 'skylightlaw17.WalkClear', WHERE WHAT IT READS IS OF BULK AT MOST 1048576: true; the input reads as it did. -/
def walkClearUptoRow : OpenClaim := { program := "ytbmpmjdlaahekaagreat", sum := "5d776d912170b69e30c70b74c1c1ee0f92c7a4018a63b092849523c150ab4afd", func := "skylight/skylightlaw17.WalkClear", spec := "walkClear", inPlace := ["math/bits.Add64"], unfollowed := true, recurses := true, apart := false, narrowed := true }
def WalkClearUptoSaid : Prop := walkClearUptoRow.holds Tryz.pinned (OpenSpec.upto walkClearSpec)

end Rows
end Go.Proofs.YtbmpmjdlaahekaaGreat
