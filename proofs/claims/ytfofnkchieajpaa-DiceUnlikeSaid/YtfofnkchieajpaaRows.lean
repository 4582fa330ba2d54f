/-
  No cell of these rows narrows 'for every input' (looked for: loops, veiled, ifaces, maps, wideKeys, modest, calm, conditions, laid).
  DERIVED. THE GIVEN ROWS OF THIS SEAT. 3 by the template 'for every input the law returns true; each argument reads behind the call as it read before'; 0 by the template 'total and deterministic' (their statements: YtfofnkchieajpaaTotals.lean).
  GIVEN WITH THE SEED: the statements are not yours to turn. If you find one false, say at which input.
  Laid BY PROGRAM, IN A SANDBOX (cutbox-rows.mjs): the forced cells as the released guide's own fill.sh prints them over the translation d177937d6ce1d4c9… (all of the seat's roots in one cut). By AI agents, Wed Nov 11 2026. No macro, syntax, notation, axiom, sorry.
-/
import Derived.Test.YtfofnkchieajpaaChecked
import GoSem.Claim
import GoSem.ClaimJoined
import GoSem.ClaimMapViews
import Derived.JoinedTies
import Derived.KernelRfl
namespace Go.Proofs.Ytfofnkchieajpaa
/- THE CELL 'sum', in the pinned program and in every row, IS THE sha256 OF THE DUMP (.gsa) THAT YtfofnkchieajpaaProg.lean LOADS. Nothing in Lean hashes anything: it is a label: what it is worth is what the hold of that sum in a sandbox is worth. -/
noncomputable def Try.pinned : Pinned := { name := "ytfofnkchieajpaa", sum := "d177937d6ce1d4c9061c34e0b0a2abba3a516b8acdc2dc75fe17f157bd97db57", checked := Try.checked }
namespace Rows
def none {H : Type} : Left H := { results := [], args := [] }

/-- 'skylightlaw04.DiceTells': WHATEVER THE INPUT: true; the input reads as it did. -/
def diceTellsSpec : ChangeSpec := { name := "diceTells", fn := fun _ => fun
  | [d1, d2, d3, d4, d5] => { results := [.lit (.bool true)], args := [d1, d2, d3, d4, d5] }
  | _ => none }
def diceTellsRow : OpenClaim := { program := "ytfofnkchieajpaa", sum := "d177937d6ce1d4c9061c34e0b0a2abba3a516b8acdc2dc75fe17f157bd97db57", func := "skylight/skylightlaw04.DiceTells", spec := "diceTells", apart := false }
def DiceTellsSaid : Prop := diceTellsRow.holds Try.pinned (OpenSpec.ofChange diceTellsSpec)

/-- ITS FALSE NEIGHBOUR: 'it returns false'. Refute it at one input. -/
def diceTellsWrong : ChangeSpec := { name := "diceTells", fn := fun _ => fun
  | [d1, d2, d3, d4, d5] => { results := [.lit (.bool false)], args := [d1, d2, d3, d4, d5] }
  | _ => none }
def DiceTellsWrongFalsely : Prop := diceTellsRow.holds Try.pinned (OpenSpec.ofChange diceTellsWrong)

/-- 'skylightlaw04.DiceUnlike': WHATEVER THE INPUT: true; the input reads as it did. -/
def diceUnlikeSpec : ChangeSpec := { name := "diceUnlike", fn := fun _ => fun
  | [d1, d2, d3, d4, d5, d6] => { results := [.lit (.bool true)], args := [d1, d2, d3, d4, d5, d6] }
  | _ => none }
def diceUnlikeRow : OpenClaim := { program := "ytfofnkchieajpaa", sum := "d177937d6ce1d4c9061c34e0b0a2abba3a516b8acdc2dc75fe17f157bd97db57", func := "skylight/skylightlaw04.DiceUnlike", spec := "diceUnlike", apart := false }
def DiceUnlikeSaid : Prop := diceUnlikeRow.holds Try.pinned (OpenSpec.ofChange diceUnlikeSpec)

/-- ITS FALSE NEIGHBOUR: 'it returns false'. Refute it at one input. -/
def diceUnlikeWrong : ChangeSpec := { name := "diceUnlike", fn := fun _ => fun
  | [d1, d2, d3, d4, d5, d6] => { results := [.lit (.bool false)], args := [d1, d2, d3, d4, d5, d6] }
  | _ => none }
def DiceUnlikeWrongFalsely : Prop := diceUnlikeRow.holds Try.pinned (OpenSpec.ofChange diceUnlikeWrong)

/-- 'skylightlaw04.DiceDeck': WHATEVER THE INPUT: true; the input reads as it did. -/
def diceDeckSpec : ChangeSpec := { name := "diceDeck", fn := fun _ => fun
  | [d1, d2, d3] => { results := [.lit (.bool true)], args := [d1, d2, d3] }
  | _ => none }
def diceDeckRow : OpenClaim := { program := "ytfofnkchieajpaa", sum := "d177937d6ce1d4c9061c34e0b0a2abba3a516b8acdc2dc75fe17f157bd97db57", func := "skylight/skylightlaw04.DiceDeck", spec := "diceDeck", unfollowed := true, recurses := true, apart := false }
def DiceDeckSaid : Prop := diceDeckRow.holds Try.pinned (OpenSpec.ofChange diceDeckSpec)

/-- ITS FALSE NEIGHBOUR: 'it returns false'. Refute it at one input. -/
def diceDeckWrong : ChangeSpec := { name := "diceDeck", fn := fun _ => fun
  | [d1, d2, d3] => { results := [.lit (.bool false)], args := [d1, d2, d3] }
  | _ => none }
def DiceDeckWrongFalsely : Prop := diceDeckRow.holds Try.pinned (OpenSpec.ofChange diceDeckWrong)

/- THE SECOND FORM. 'bulk': how many values and letters a reading holds, each counted each time it is reached (what is shared counts as often as it is met; a slice's spare places count too). A statement '..UptoSaid' is the law's where the arguments, and the package variables that the reading takes, are together of bulk at most 1048576: NARROWER than '..Said'. Prove '..Said' where nothing that the law and all that it calls make is longer than what came in: it says more and counts as full. Else prove '..UptoSaid'. A law counts once. -/
mutual
def uptoBulk {H : Type} : DataW H → Nat
  | .lit (.string bytes) => bytes.length + 1
  | .lit _ => 1
  | .nil => 1
  | .ptr d => uptoBulk d + 1
  | .slice elems spare => uptoBulkAll elems + uptoBulkAll spare + 1
  | .agg parts => uptoBulkAll parts + 1
  | .iface _ d => uptoBulk d + 1
  | .map entries => uptoBulkEntries entries + 1
  | .held _ => 1
def uptoBulkAll {H : Type} : List (DataW H) → Nat
  | [] => 0
  | d :: r => uptoBulk d + uptoBulkAll r
def uptoBulkEntries {H : Type} : List (Lit × DataW H) → Nat
  | [] => 0
  | x :: r => uptoBulkEntry x + uptoBulkEntries r
def uptoBulkEntry {H : Type} : Lit × DataW H → Nat
  | (.string bytes, d) => bytes.length + uptoBulk d + 1
  | (_, d) => uptoBulk d + 1
 end
def uptoSmall : (H : Type) → List (DataW H) → Bool := fun _ ds => decide (uptoBulkAll ds ≤ 1048576)
def OpenSpec.upto (s : _root_.Go.ChangeSpec) : _root_.Go.OpenSpec := { _root_.Go.OpenSpec.ofChange s with cond := some uptoSmall }

/-- 'skylightlaw04.DiceTells', WHERE WHAT IT READS IS OF BULK AT MOST 1048576: true; the input reads as it did. -/
def diceTellsUptoRow : OpenClaim := { program := "ytfofnkchieajpaa", sum := "d177937d6ce1d4c9061c34e0b0a2abba3a516b8acdc2dc75fe17f157bd97db57", func := "skylight/skylightlaw04.DiceTells", spec := "diceTells", apart := false, narrowed := true }
def DiceTellsUptoSaid : Prop := diceTellsUptoRow.holds Try.pinned (OpenSpec.upto diceTellsSpec)

/-- 'skylightlaw04.DiceUnlike', WHERE WHAT IT READS IS OF BULK AT MOST 1048576: true; the input reads as it did. -/
def diceUnlikeUptoRow : OpenClaim := { program := "ytfofnkchieajpaa", sum := "d177937d6ce1d4c9061c34e0b0a2abba3a516b8acdc2dc75fe17f157bd97db57", func := "skylight/skylightlaw04.DiceUnlike", spec := "diceUnlike", apart := false, narrowed := true }
def DiceUnlikeUptoSaid : Prop := diceUnlikeUptoRow.holds Try.pinned (OpenSpec.upto diceUnlikeSpec)

/-- 'skylightlaw04.DiceDeck', WHERE WHAT IT READS IS OF BULK AT MOST 1048576: true; the input reads as it did. -/
def diceDeckUptoRow : OpenClaim := { program := "ytfofnkchieajpaa", sum := "d177937d6ce1d4c9061c34e0b0a2abba3a516b8acdc2dc75fe17f157bd97db57", func := "skylight/skylightlaw04.DiceDeck", spec := "diceDeck", unfollowed := true, recurses := true, apart := false, narrowed := true }
def DiceDeckUptoSaid : Prop := diceDeckUptoRow.holds Try.pinned (OpenSpec.upto diceDeckSpec)

end Rows
end Go.Proofs.Ytfofnkchieajpaa
