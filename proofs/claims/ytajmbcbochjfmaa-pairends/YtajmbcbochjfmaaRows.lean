/-
  No cell of these rows narrows 'for every input' (looked for: loops, veiled, ifaces, maps, wideKeys, modest, calm, conditions, laid).
  DERIVED. THE GIVEN ROWS OF THIS SEAT. 4 by the template 'for every input the law returns true; each argument reads behind the call as it read before'; 0 by the template 'total and deterministic' (their statements: YtajmbcbochjfmaaTotals.lean).
  GIVEN WITH THE SEED: the statements are not yours to turn. If you find one false, say at which input.
  Laid BY PROGRAM, IN A SANDBOX (cutbox-rows.mjs): the forced cells as the released guide's own fill.sh prints them over the translation ea4804ba431dd655… (all of the seat's roots in one cut). By AI agents, Wed Nov 11 2026. No macro, syntax, notation, axiom, sorry.
-/
import Derived.Test.YtajmbcbochjfmaaChecked
import GoSem.Claim
import GoSem.ClaimJoined
import GoSem.ClaimMapViews
import Derived.JoinedTies
import Derived.KernelRfl
namespace Go.Proofs.Ytajmbcbochjfmaa
/- THE CELL 'sum', in the pinned program and in every row, IS THE sha256 OF THE DUMP (.gsa) THAT YtajmbcbochjfmaaProg.lean LOADS. Nothing in Lean hashes anything: it is a label: what it is worth is what the hold of that sum in a sandbox is worth. -/
noncomputable def Try.pinned : Pinned := { name := "ytajmbcbochjfmaa", sum := "ea4804ba431dd655a5e566c3cee82ba6a8c652862c346f908192732ac951077f", checked := Try.checked }
namespace Rows
def none {H : Type} : Left H := { results := [], args := [] }

/-- 'girolaw19.PairRuns': WHATEVER THE INPUT: true; the input reads as it did. -/
def pairRunsSpec : ChangeSpec := { name := "pairRuns", fn := fun _ => fun
  | [d1, d2, d3, d4] => { results := [.lit (.bool true)], args := [d1, d2, d3, d4] }
  | _ => none }
def pairRunsRow : OpenClaim := { program := "ytajmbcbochjfmaa", sum := "ea4804ba431dd655a5e566c3cee82ba6a8c652862c346f908192732ac951077f", func := "giro/girolaw19.PairRuns", spec := "pairRuns", inPlace := ["math/bits.Add64"], unfollowed := true, recurses := true, apart := false }
def PairRunsSaid : Prop := pairRunsRow.holds Try.pinned (OpenSpec.ofChange pairRunsSpec)

/-- ITS FALSE NEIGHBOUR: 'it returns false'. Refute it at one input. -/
def pairRunsWrong : ChangeSpec := { name := "pairRuns", fn := fun _ => fun
  | [d1, d2, d3, d4] => { results := [.lit (.bool false)], args := [d1, d2, d3, d4] }
  | _ => none }
def PairRunsWrongFalsely : Prop := pairRunsRow.holds Try.pinned (OpenSpec.ofChange pairRunsWrong)

/-- 'girolaw19.PairEnds': WHATEVER THE INPUT: true; the input reads as it did. -/
def pairEndsSpec : ChangeSpec := { name := "pairEnds", fn := fun _ => fun
  | [d1, d2, d3, d4] => { results := [.lit (.bool true)], args := [d1, d2, d3, d4] }
  | _ => none }
def pairEndsRow : OpenClaim := { program := "ytajmbcbochjfmaa", sum := "ea4804ba431dd655a5e566c3cee82ba6a8c652862c346f908192732ac951077f", func := "giro/girolaw19.PairEnds", spec := "pairEnds", inPlace := ["math/bits.Add64"], unfollowed := true, recurses := true, apart := false }
def PairEndsSaid : Prop := pairEndsRow.holds Try.pinned (OpenSpec.ofChange pairEndsSpec)

/-- ITS FALSE NEIGHBOUR: 'it returns false'. Refute it at one input. -/
def pairEndsWrong : ChangeSpec := { name := "pairEnds", fn := fun _ => fun
  | [d1, d2, d3, d4] => { results := [.lit (.bool false)], args := [d1, d2, d3, d4] }
  | _ => none }
def PairEndsWrongFalsely : Prop := pairEndsRow.holds Try.pinned (OpenSpec.ofChange pairEndsWrong)

/-- 'girolaw19.PairTwo': WHATEVER THE INPUT: true; the input reads as it did. -/
def pairTwoSpec : ChangeSpec := { name := "pairTwo", fn := fun _ => fun
  | [d1, d2, d3, d4] => { results := [.lit (.bool true)], args := [d1, d2, d3, d4] }
  | _ => none }
def pairTwoRow : OpenClaim := { program := "ytajmbcbochjfmaa", sum := "ea4804ba431dd655a5e566c3cee82ba6a8c652862c346f908192732ac951077f", func := "giro/girolaw19.PairTwo", spec := "pairTwo", inPlace := ["math/bits.Add64"], unfollowed := true, recurses := true, apart := false }
def PairTwoSaid : Prop := pairTwoRow.holds Try.pinned (OpenSpec.ofChange pairTwoSpec)

/-- ITS FALSE NEIGHBOUR: 'it returns false'. Refute it at one input. -/
def pairTwoWrong : ChangeSpec := { name := "pairTwo", fn := fun _ => fun
  | [d1, d2, d3, d4] => { results := [.lit (.bool false)], args := [d1, d2, d3, d4] }
  | _ => none }
def PairTwoWrongFalsely : Prop := pairTwoRow.holds Try.pinned (OpenSpec.ofChange pairTwoWrong)

/-- 'girolaw19.PairKnown': WHATEVER THE INPUT: true; the input reads as it did. -/
def pairKnownSpec : ChangeSpec := { name := "pairKnown", fn := fun _ => fun
  | [d] => { results := [.lit (.bool true)], args := [d] }
  | _ => none }
def pairKnownRow : OpenClaim := { program := "ytajmbcbochjfmaa", sum := "ea4804ba431dd655a5e566c3cee82ba6a8c652862c346f908192732ac951077f", func := "giro/girolaw19.PairKnown", spec := "pairKnown", inPlace := ["math/bits.Add64"], unfollowed := true, recurses := true, apart := false }
def PairKnownSaid : Prop := pairKnownRow.holds Try.pinned (OpenSpec.ofChange pairKnownSpec)

/-- ITS FALSE NEIGHBOUR: 'it returns false'. Refute it at one input. -/
def pairKnownWrong : ChangeSpec := { name := "pairKnown", fn := fun _ => fun
  | [d] => { results := [.lit (.bool false)], args := [d] }
  | _ => none }
def PairKnownWrongFalsely : Prop := pairKnownRow.holds Try.pinned (OpenSpec.ofChange pairKnownWrong)

/- THE SECOND FORM. 'bulk': how many values and letters a reading holds, each counted each time it is reached (what is shared counts as often as it is met; a slice's spare places count too). A statement '..UptoSaid' is the law's where the arguments, and the package variables that the reading takes, are together of bulk at most 1048576: NARROWER than '..Said'. Prove '..Said' where nothing that the law and all that it calls make is longer than what came in: it says more and counts as full. Else prove '..UptoSaid'. A law counts once. -/
mutual
def uptoBulk {H : Type} : DataW H → Nat
  | .lit (.string bytes) => bytes.length + 1
  | .lit _ => 1
  | .nil => 1
  | .ptr d => uptoBulk d + 1
  | .slice elems spare => uptoBulkAll elems + uptoBulkAll spare + 1
  | .agg parts => uptoBulkAll parts + 1
  | .iface _ d => uptoBulk d + 1
  | .map entries => uptoBulkEntries entries + 1
  | .held _ => 1
def uptoBulkAll {H : Type} : List (DataW H) → Nat
  | [] => 0
  | d :: r => uptoBulk d + uptoBulkAll r
def uptoBulkEntries {H : Type} : List (Lit × DataW H) → Nat
  | [] => 0
  | x :: r => uptoBulkEntry x + uptoBulkEntries r
def uptoBulkEntry {H : Type} : Lit × DataW H → Nat
  | (.string bytes, d) => bytes.length + uptoBulk d + 1
  | (_, d) => uptoBulk d + 1
 end
def uptoSmall : (H : Type) → List (DataW H) → Bool := fun _ ds => decide (uptoBulkAll ds ≤ 1048576)
def OpenSpec.upto (s : _root_.Go.ChangeSpec) : _root_.Go.OpenSpec := { _root_.Go.OpenSpec.ofChange s with cond := some uptoSmall }

/-- 'girolaw19.PairRuns', WHERE WHAT IT READS IS OF BULK AT MOST 1048576: true; the input reads as it did. -/
def pairRunsUptoRow : OpenClaim := { program := "ytajmbcbochjfmaa", sum := "ea4804ba431dd655a5e566c3cee82ba6a8c652862c346f908192732ac951077f", func := "giro/girolaw19.PairRuns", spec := "pairRuns", inPlace := ["math/bits.Add64"], unfollowed := true, recurses := true, apart := false, narrowed := true }
def PairRunsUptoSaid : Prop := pairRunsUptoRow.holds Try.pinned (OpenSpec.upto pairRunsSpec)

/-- 'girolaw19.PairEnds', WHERE WHAT IT READS IS OF BULK AT MOST 1048576: true; the input reads as it did. -/
def pairEndsUptoRow : OpenClaim := { program := "ytajmbcbochjfmaa", sum := "ea4804ba431dd655a5e566c3cee82ba6a8c652862c346f908192732ac951077f", func := "giro/girolaw19.PairEnds", spec := "pairEnds", inPlace := ["math/bits.Add64"], unfollowed := true, recurses := true, apart := false, narrowed := true }
def PairEndsUptoSaid : Prop := pairEndsUptoRow.holds Try.pinned (OpenSpec.upto pairEndsSpec)

/-- 'girolaw19.PairTwo', WHERE WHAT IT READS IS OF BULK AT MOST 1048576: true; the input reads as it did. -/
def pairTwoUptoRow : OpenClaim := { program := "ytajmbcbochjfmaa", sum := "ea4804ba431dd655a5e566c3cee82ba6a8c652862c346f908192732ac951077f", func := "giro/girolaw19.PairTwo", spec := "pairTwo", inPlace := ["math/bits.Add64"], unfollowed := true, recurses := true, apart := false, narrowed := true }
def PairTwoUptoSaid : Prop := pairTwoUptoRow.holds Try.pinned (OpenSpec.upto pairTwoSpec)

/-- 'girolaw19.PairKnown', WHERE WHAT IT READS IS OF BULK AT MOST 1048576: true; the input reads as it did. -/
def pairKnownUptoRow : OpenClaim := { program := "ytajmbcbochjfmaa", sum := "ea4804ba431dd655a5e566c3cee82ba6a8c652862c346f908192732ac951077f", func := "giro/girolaw19.PairKnown", spec := "pairKnown", inPlace := ["math/bits.Add64"], unfollowed := true, recurses := true, apart := false, narrowed := true }
def PairKnownUptoSaid : Prop := pairKnownUptoRow.holds Try.pinned (OpenSpec.upto pairKnownSpec)

end Rows
end Go.Proofs.Ytajmbcbochjfmaa
