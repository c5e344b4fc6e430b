/-
  No cell of these rows narrows 'for every input' (looked for: loops, veiled, ifaces, maps, wideKeys, modest, calm, conditions, laid).
  DERIVED. THE GIVEN ROWS OF THIS SEAT. 3 by the template 'for every input the law returns true; each argument reads behind the call as it read before'; 0 by the template 'total and deterministic' (their statements: YtcdahjkngejkeaaTotals.lean).
  GIVEN WITH THE SEED: the statements are not yours to turn. If you find one false, say at which input.
  Laid BY PROGRAM, IN A SANDBOX (cutbox-rows.mjs): the forced cells as the released guide's own fill.sh prints them over the translation aca652bd50a9b9b3… (all of the seat's roots in one cut). By AI agents, Wed Nov 11 2026. No macro, syntax, notation, axiom, sorry.
-/
import Derived.Test.YtcdahjkngejkeaaChecked
import GoSem.Claim
import GoSem.ClaimJoined
import GoSem.ClaimMapViews
import Derived.JoinedTies
import Derived.KernelRfl
namespace Go.Proofs.Ytcdahjkngejkeaa
/- THE CELL 'sum', in the pinned program and in every row, IS THE sha256 OF THE DUMP (.gsa) THAT YtcdahjkngejkeaaProg.lean LOADS. Nothing in Lean hashes anything: it is a label: what it is worth is what the hold of that sum in a sandbox is worth. -/
noncomputable def Try.pinned : Pinned := { name := "ytcdahjkngejkeaa", sum := "aca652bd50a9b9b30bfbb97e6b4e4c1988d0b9008d7d8f3f261fa4520b96cb9f", checked := Try.checked }
namespace Rows
def none {H : Type} : Left H := { results := [], args := [] }

/-- 'girolaw17.MostTells': WHATEVER THE INPUT: true; the input reads as it did. -/
def mostTellsSpec : ChangeSpec := { name := "mostTells", fn := fun _ => fun
  | [d1, d2, d3, d4] => { results := [.lit (.bool true)], args := [d1, d2, d3, d4] }
  | _ => none }
def mostTellsRow : OpenClaim := { program := "ytcdahjkngejkeaa", sum := "aca652bd50a9b9b30bfbb97e6b4e4c1988d0b9008d7d8f3f261fa4520b96cb9f", func := "giro/girolaw17.MostTells", spec := "mostTells", inPlace := ["math/bits.Add64"], unfollowed := true, recurses := true, apart := false }
def MostTellsSaid : Prop := mostTellsRow.holds Try.pinned (OpenSpec.ofChange mostTellsSpec)

/-- ITS FALSE NEIGHBOUR: 'it returns false'. Refute it at one input. -/
def mostTellsWrong : ChangeSpec := { name := "mostTells", fn := fun _ => fun
  | [d1, d2, d3, d4] => { results := [.lit (.bool false)], args := [d1, d2, d3, d4] }
  | _ => none }
def MostTellsWrongFalsely : Prop := mostTellsRow.holds Try.pinned (OpenSpec.ofChange mostTellsWrong)

/-- 'girolaw17.MostEdge': WHATEVER THE INPUT: true; the input reads as it did. -/
def mostEdgeSpec : ChangeSpec := { name := "mostEdge", fn := fun _ => fun
  | [d1, d2, d3, d4, d5] => { results := [.lit (.bool true)], args := [d1, d2, d3, d4, d5] }
  | _ => none }
def mostEdgeRow : OpenClaim := { program := "ytcdahjkngejkeaa", sum := "aca652bd50a9b9b30bfbb97e6b4e4c1988d0b9008d7d8f3f261fa4520b96cb9f", func := "giro/girolaw17.MostEdge", spec := "mostEdge", inPlace := ["math/bits.Add64"], unfollowed := true, recurses := true, apart := false }
def MostEdgeSaid : Prop := mostEdgeRow.holds Try.pinned (OpenSpec.ofChange mostEdgeSpec)

/-- ITS FALSE NEIGHBOUR: 'it returns false'. Refute it at one input. -/
def mostEdgeWrong : ChangeSpec := { name := "mostEdge", fn := fun _ => fun
  | [d1, d2, d3, d4, d5] => { results := [.lit (.bool false)], args := [d1, d2, d3, d4, d5] }
  | _ => none }
def MostEdgeWrongFalsely : Prop := mostEdgeRow.holds Try.pinned (OpenSpec.ofChange mostEdgeWrong)

/-- 'girolaw17.MostBounds': WHATEVER THE INPUT: true; the input reads as it did. -/
def mostBoundsSpec : ChangeSpec := { name := "mostBounds", fn := fun _ => fun
  | [d1, d2, d3, d4, d5, d6] => { results := [.lit (.bool true)], args := [d1, d2, d3, d4, d5, d6] }
  | _ => none }
def mostBoundsRow : OpenClaim := { program := "ytcdahjkngejkeaa", sum := "aca652bd50a9b9b30bfbb97e6b4e4c1988d0b9008d7d8f3f261fa4520b96cb9f", func := "giro/girolaw17.MostBounds", spec := "mostBounds", inPlace := ["math/bits.Add64"], unfollowed := true, recurses := true, apart := false }
def MostBoundsSaid : Prop := mostBoundsRow.holds Try.pinned (OpenSpec.ofChange mostBoundsSpec)

/-- ITS FALSE NEIGHBOUR: 'it returns false'. Refute it at one input. -/
def mostBoundsWrong : ChangeSpec := { name := "mostBounds", fn := fun _ => fun
  | [d1, d2, d3, d4, d5, d6] => { results := [.lit (.bool false)], args := [d1, d2, d3, d4, d5, d6] }
  | _ => none }
def MostBoundsWrongFalsely : Prop := mostBoundsRow.holds Try.pinned (OpenSpec.ofChange mostBoundsWrong)

/- THE SECOND FORM. 'bulk': how many values and letters a reading holds, each counted each time it is reached (what is shared counts as often as it is met; a slice's spare places count too). A statement '..UptoSaid' is the law's where the arguments, and the package variables that the reading takes, are together of bulk at most 1048576: NARROWER than '..Said'. Prove '..Said' where nothing that the law and all that it calls make is longer than what came in: it says more and counts as full. Else prove '..UptoSaid'. A law counts once. -/
mutual
def uptoBulk {H : Type} : DataW H → Nat
  | .lit (.string bytes) => bytes.length + 1
  | .lit _ => 1
  | .nil => 1
  | .ptr d => uptoBulk d + 1
  | .slice elems spare => uptoBulkAll elems + uptoBulkAll spare + 1
  | .agg parts => uptoBulkAll parts + 1
  | .iface _ d => uptoBulk d + 1
  | .map entries => uptoBulkEntries entries + 1
  | .held _ => 1
def uptoBulkAll {H : Type} : List (DataW H) → Nat
  | [] => 0
  | d :: r => uptoBulk d + uptoBulkAll r
def uptoBulkEntries {H : Type} : List (Lit × DataW H) → Nat
  | [] => 0
  | x :: r => uptoBulkEntry x + uptoBulkEntries r
def uptoBulkEntry {H : Type} : Lit × DataW H → Nat
  | (.string bytes, d) => bytes.length + uptoBulk d + 1
  | (_, d) => uptoBulk d + 1
 end
def uptoSmall : (H : Type) → List (DataW H) → Bool := fun _ ds => decide (uptoBulkAll ds ≤ 1048576)
def OpenSpec.upto (s : _root_.Go.ChangeSpec) : _root_.Go.OpenSpec := { _root_.Go.OpenSpec.ofChange s with cond := some uptoSmall }

/-- 'girolaw17.MostTells', WHERE WHAT IT READS IS OF BULK AT MOST 1048576: true; the input reads as it did. -/
def mostTellsUptoRow : OpenClaim := { program := "ytcdahjkngejkeaa", sum := "aca652bd50a9b9b30bfbb97e6b4e4c1988d0b9008d7d8f3f261fa4520b96cb9f", func := "giro/girolaw17.MostTells", spec := "mostTells", inPlace := ["math/bits.Add64"], unfollowed := true, recurses := true, apart := false, narrowed := true }
def MostTellsUptoSaid : Prop := mostTellsUptoRow.holds Try.pinned (OpenSpec.upto mostTellsSpec)

/-- 'girolaw17.MostEdge', WHERE WHAT IT READS IS OF BULK AT MOST 1048576: true; the input reads as it did. -/
def mostEdgeUptoRow : OpenClaim := { program := "ytcdahjkngejkeaa", sum := "aca652bd50a9b9b30bfbb97e6b4e4c1988d0b9008d7d8f3f261fa4520b96cb9f", func := "giro/girolaw17.MostEdge", spec := "mostEdge", inPlace := ["math/bits.Add64"], unfollowed := true, recurses := true, apart := false, narrowed := true }
def MostEdgeUptoSaid : Prop := mostEdgeUptoRow.holds Try.pinned (OpenSpec.upto mostEdgeSpec)

/-- 'girolaw17.MostBounds', WHERE WHAT IT READS IS OF BULK AT MOST 1048576: true; the input reads as it did. -/
def mostBoundsUptoRow : OpenClaim := { program := "ytcdahjkngejkeaa", sum := "aca652bd50a9b9b30bfbb97e6b4e4c1988d0b9008d7d8f3f261fa4520b96cb9f", func := "giro/girolaw17.MostBounds", spec := "mostBounds", inPlace := ["math/bits.Add64"], unfollowed := true, recurses := true, apart := false, narrowed := true }
def MostBoundsUptoSaid : Prop := mostBoundsUptoRow.holds Try.pinned (OpenSpec.upto mostBoundsSpec)

end Rows
end Go.Proofs.Ytcdahjkngejkeaa
