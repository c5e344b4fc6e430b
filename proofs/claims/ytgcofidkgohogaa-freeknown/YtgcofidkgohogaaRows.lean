/-
  No cell of these rows narrows 'for every input' (looked for: loops, veiled, ifaces, maps, wideKeys, modest, calm, conditions, laid).
  DERIVED. THE GIVEN ROWS OF THIS SEAT. 4 by the template 'for every input the law returns true; each argument reads behind the call as it read before'; 0 by the template 'total and deterministic' (their statements: YtgcofidkgohogaaTotals.lean).
  GIVEN WITH THE SEED: the statements are not yours to turn. If you find one false, say at which input.
  Laid BY PROGRAM, IN A SANDBOX (cutbox-rows.mjs): the forced cells as the released guide's own fill.sh prints them over the translation 56a242a9cae5f09c… (all of the seat's roots in one cut). By AI agents, Wed Nov 11 2026. No macro, syntax, notation, axiom, sorry.
-/
import Derived.Test.YtgcofidkgohogaaChecked
import GoSem.Claim
import GoSem.ClaimJoined
import GoSem.ClaimMapViews
import Derived.JoinedTies
import Derived.KernelRfl
namespace Go.Proofs.Ytgcofidkgohogaa
/- THE CELL 'sum', in the pinned program and in every row, IS THE sha256 OF THE DUMP (.gsa) THAT YtgcofidkgohogaaProg.lean LOADS. Nothing in Lean hashes anything: it is a label: what it is worth is what the hold of that sum in a sandbox is worth. -/
noncomputable def Try.pinned : Pinned := { name := "ytgcofidkgohogaa", sum := "56a242a9cae5f09c0a0a4cc9761a4341ad9bdcfde4f6941088208b716b1629a2", checked := Try.checked }
namespace Rows
def none {H : Type} : Left H := { results := [], args := [] }

/-- 'girolaw18.FreeRuns': WHATEVER THE INPUT: true; the input reads as it did. -/
def freeRunsSpec : ChangeSpec := { name := "freeRuns", fn := fun _ => fun
  | [d1, d2, d3, d4] => { results := [.lit (.bool true)], args := [d1, d2, d3, d4] }
  | _ => none }
def freeRunsRow : OpenClaim := { program := "ytgcofidkgohogaa", sum := "56a242a9cae5f09c0a0a4cc9761a4341ad9bdcfde4f6941088208b716b1629a2", func := "giro/girolaw18.FreeRuns", spec := "freeRuns", inPlace := ["math/bits.Add64"], unfollowed := true, recurses := true, apart := false }
def FreeRunsSaid : Prop := freeRunsRow.holds Try.pinned (OpenSpec.ofChange freeRunsSpec)

/-- ITS FALSE NEIGHBOUR: 'it returns false'. Refute it at one input. -/
def freeRunsWrong : ChangeSpec := { name := "freeRuns", fn := fun _ => fun
  | [d1, d2, d3, d4] => { results := [.lit (.bool false)], args := [d1, d2, d3, d4] }
  | _ => none }
def FreeRunsWrongFalsely : Prop := freeRunsRow.holds Try.pinned (OpenSpec.ofChange freeRunsWrong)

/-- 'girolaw18.FreeBooks': WHATEVER THE INPUT: true; the input reads as it did. -/
def freeBooksSpec : ChangeSpec := { name := "freeBooks", fn := fun _ => fun
  | [d1, d2, d3] => { results := [.lit (.bool true)], args := [d1, d2, d3] }
  | _ => none }
def freeBooksRow : OpenClaim := { program := "ytgcofidkgohogaa", sum := "56a242a9cae5f09c0a0a4cc9761a4341ad9bdcfde4f6941088208b716b1629a2", func := "giro/girolaw18.FreeBooks", spec := "freeBooks", inPlace := ["math/bits.Add64"], unfollowed := true, recurses := true, apart := false }
def FreeBooksSaid : Prop := freeBooksRow.holds Try.pinned (OpenSpec.ofChange freeBooksSpec)

/-- ITS FALSE NEIGHBOUR: 'it returns false'. Refute it at one input. -/
def freeBooksWrong : ChangeSpec := { name := "freeBooks", fn := fun _ => fun
  | [d1, d2, d3] => { results := [.lit (.bool false)], args := [d1, d2, d3] }
  | _ => none }
def FreeBooksWrongFalsely : Prop := freeBooksRow.holds Try.pinned (OpenSpec.ofChange freeBooksWrong)

/-- 'girolaw18.FreeEnds': WHATEVER THE INPUT: true; the input reads as it did. -/
def freeEndsSpec : ChangeSpec := { name := "freeEnds", fn := fun _ => fun
  | [d1, d2, d3, d4] => { results := [.lit (.bool true)], args := [d1, d2, d3, d4] }
  | _ => none }
def freeEndsRow : OpenClaim := { program := "ytgcofidkgohogaa", sum := "56a242a9cae5f09c0a0a4cc9761a4341ad9bdcfde4f6941088208b716b1629a2", func := "giro/girolaw18.FreeEnds", spec := "freeEnds", inPlace := ["math/bits.Add64"], unfollowed := true, recurses := true, apart := false }
def FreeEndsSaid : Prop := freeEndsRow.holds Try.pinned (OpenSpec.ofChange freeEndsSpec)

/-- ITS FALSE NEIGHBOUR: 'it returns false'. Refute it at one input. -/
def freeEndsWrong : ChangeSpec := { name := "freeEnds", fn := fun _ => fun
  | [d1, d2, d3, d4] => { results := [.lit (.bool false)], args := [d1, d2, d3, d4] }
  | _ => none }
def FreeEndsWrongFalsely : Prop := freeEndsRow.holds Try.pinned (OpenSpec.ofChange freeEndsWrong)

/-- 'girolaw18.FreeKnown': WHATEVER THE INPUT: true; the input reads as it did. -/
def freeKnownSpec : ChangeSpec := { name := "freeKnown", fn := fun _ => fun
  | [d] => { results := [.lit (.bool true)], args := [d] }
  | _ => none }
def freeKnownRow : OpenClaim := { program := "ytgcofidkgohogaa", sum := "56a242a9cae5f09c0a0a4cc9761a4341ad9bdcfde4f6941088208b716b1629a2", func := "giro/girolaw18.FreeKnown", spec := "freeKnown", inPlace := ["math/bits.Add64"], unfollowed := true, recurses := true, apart := false }
def FreeKnownSaid : Prop := freeKnownRow.holds Try.pinned (OpenSpec.ofChange freeKnownSpec)

/-- ITS FALSE NEIGHBOUR: 'it returns false'. Refute it at one input. -/
def freeKnownWrong : ChangeSpec := { name := "freeKnown", fn := fun _ => fun
  | [d] => { results := [.lit (.bool false)], args := [d] }
  | _ => none }
def FreeKnownWrongFalsely : Prop := freeKnownRow.holds Try.pinned (OpenSpec.ofChange freeKnownWrong)

/- THE SECOND FORM. 'bulk': how many values and letters a reading holds, each counted each time it is reached (what is shared counts as often as it is met; a slice's spare places count too). A statement '..UptoSaid' is the law's where the arguments, and the package variables that the reading takes, are together of bulk at most 1048576: NARROWER than '..Said'. Prove '..Said' where nothing that the law and all that it calls make is longer than what came in: it says more and counts as full. Else prove '..UptoSaid'. A law counts once. -/
mutual
def uptoBulk {H : Type} : DataW H → Nat
  | .lit (.string bytes) => bytes.length + 1
  | .lit _ => 1
  | .nil => 1
  | .ptr d => uptoBulk d + 1
  | .slice elems spare => uptoBulkAll elems + uptoBulkAll spare + 1
  | .agg parts => uptoBulkAll parts + 1
  | .iface _ d => uptoBulk d + 1
  | .map entries => uptoBulkEntries entries + 1
  | .held _ => 1
def uptoBulkAll {H : Type} : List (DataW H) → Nat
  | [] => 0
  | d :: r => uptoBulk d + uptoBulkAll r
def uptoBulkEntries {H : Type} : List (Lit × DataW H) → Nat
  | [] => 0
  | x :: r => uptoBulkEntry x + uptoBulkEntries r
def uptoBulkEntry {H : Type} : Lit × DataW H → Nat
  | (.string bytes, d) => bytes.length + uptoBulk d + 1
  | (_, d) => uptoBulk d + 1
 end
def uptoSmall : (H : Type) → List (DataW H) → Bool := fun _ ds => decide (uptoBulkAll ds ≤ 1048576)
def OpenSpec.upto (s : _root_.Go.ChangeSpec) : _root_.Go.OpenSpec := { _root_.Go.OpenSpec.ofChange s with cond := some uptoSmall }

/-- 'girolaw18.FreeRuns', WHERE WHAT IT READS IS OF BULK AT MOST 1048576: true; the input reads as it did. -/
def freeRunsUptoRow : OpenClaim := { program := "ytgcofidkgohogaa", sum := "56a242a9cae5f09c0a0a4cc9761a4341ad9bdcfde4f6941088208b716b1629a2", func := "giro/girolaw18.FreeRuns", spec := "freeRuns", inPlace := ["math/bits.Add64"], unfollowed := true, recurses := true, apart := false, narrowed := true }
def FreeRunsUptoSaid : Prop := freeRunsUptoRow.holds Try.pinned (OpenSpec.upto freeRunsSpec)

/-- 'girolaw18.FreeBooks', WHERE WHAT IT READS IS OF BULK AT MOST 1048576: true; the input reads as it did. -/
def freeBooksUptoRow : OpenClaim := { program := "ytgcofidkgohogaa", sum := "56a242a9cae5f09c0a0a4cc9761a4341ad9bdcfde4f6941088208b716b1629a2", func := "giro/girolaw18.FreeBooks", spec := "freeBooks", inPlace := ["math/bits.Add64"], unfollowed := true, recurses := true, apart := false, narrowed := true }
def FreeBooksUptoSaid : Prop := freeBooksUptoRow.holds Try.pinned (OpenSpec.upto freeBooksSpec)

/-- 'girolaw18.FreeEnds', WHERE WHAT IT READS IS OF BULK AT MOST 1048576: true; the input reads as it did. -/
def freeEndsUptoRow : OpenClaim := { program := "ytgcofidkgohogaa", sum := "56a242a9cae5f09c0a0a4cc9761a4341ad9bdcfde4f6941088208b716b1629a2", func := "giro/girolaw18.FreeEnds", spec := "freeEnds", inPlace := ["math/bits.Add64"], unfollowed := true, recurses := true, apart := false, narrowed := true }
def FreeEndsUptoSaid : Prop := freeEndsUptoRow.holds Try.pinned (OpenSpec.upto freeEndsSpec)

/-- 'girolaw18.FreeKnown', WHERE WHAT IT READS IS OF BULK AT MOST 1048576: true; the input reads as it did. -/
def freeKnownUptoRow : OpenClaim := { program := "ytgcofidkgohogaa", sum := "56a242a9cae5f09c0a0a4cc9761a4341ad9bdcfde4f6941088208b716b1629a2", func := "giro/girolaw18.FreeKnown", spec := "freeKnown", inPlace := ["math/bits.Add64"], unfollowed := true, recurses := true, apart := false, narrowed := true }
def FreeKnownUptoSaid : Prop := freeKnownUptoRow.holds Try.pinned (OpenSpec.upto freeKnownSpec)

end Rows
end Go.Proofs.Ytgcofidkgohogaa
