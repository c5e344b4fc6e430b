/-
  No cell of these rows narrows 'for every input' (looked for: loops, veiled, ifaces, maps, wideKeys, modest, calm, conditions, laid).
  DERIVED. THE GIVEN ROWS OF THIS SEAT. 3 by the template 'for every input the law returns true; each argument reads behind the call as it read before'; 0 by the template 'total and deterministic' (their statements: YtpaieecbedgeaaaTotals.lean).
  GIVEN WITH THE SEED: the statements are not yours to turn. If you find one false, say at which input.
  Laid BY PROGRAM, IN A SANDBOX (cutbox-rows.mjs): the forced cells as the released guide's own fill.sh prints them over the translation 2c90ccbd695a0386… (all of the seat's roots in one cut). By AI agents, Wed Nov 11 2026. No macro, syntax, notation, axiom, sorry.
-/
import Derived.Test.YtpaieecbedgeaaaChecked
import GoSem.Claim
import GoSem.ClaimJoined
import GoSem.ClaimMapViews
import Derived.JoinedTies
import Derived.KernelRfl
namespace Go.Proofs.Ytpaieecbedgeaaa
/- THE CELL 'sum', in the pinned program and in every row, IS THE sha256 OF THE DUMP (.gsa) THAT YtpaieecbedgeaaaProg.lean LOADS. Nothing in Lean hashes anything: it is a label: what it is worth is what the hold of that sum in a sandbox is worth. -/
noncomputable def Try.pinned : Pinned := { name := "ytpaieecbedgeaaa", sum := "2c90ccbd695a03860d09d371d0845c271966e465559701dafa0cc0813cb6133b", checked := Try.checked }
namespace Rows
def none {H : Type} : Left H := { results := [], args := [] }

/-- 'girolaw10.LimZero': WHATEVER THE INPUT: true; the input reads as it did. -/
def limZeroSpec : ChangeSpec := { name := "limZero", fn := fun _ => fun
  | [d] => { results := [.lit (.bool true)], args := [d] }
  | _ => none }
def limZeroRow : OpenClaim := { program := "ytpaieecbedgeaaa", sum := "2c90ccbd695a03860d09d371d0845c271966e465559701dafa0cc0813cb6133b", func := "giro/girolaw10.LimZero", spec := "limZero", unfollowed := true, recurses := true, apart := false }
def LimZeroSaid : Prop := limZeroRow.holds Try.pinned (OpenSpec.ofChange limZeroSpec)

/-- ITS FALSE NEIGHBOUR: 'it returns false'. Refute it at one input. -/
def limZeroWrong : ChangeSpec := { name := "limZero", fn := fun _ => fun
  | [d] => { results := [.lit (.bool false)], args := [d] }
  | _ => none }
def LimZeroWrongFalsely : Prop := limZeroRow.holds Try.pinned (OpenSpec.ofChange limZeroWrong)

/-- 'girolaw10.LimCopies': WHATEVER THE INPUT: true; the input reads as it did. -/
def limCopiesSpec : ChangeSpec := { name := "limCopies", fn := fun _ => fun
  | [d1, d2] => { results := [.lit (.bool true)], args := [d1, d2] }
  | _ => none }
def limCopiesRow : OpenClaim := { program := "ytpaieecbedgeaaa", sum := "2c90ccbd695a03860d09d371d0845c271966e465559701dafa0cc0813cb6133b", func := "giro/girolaw10.LimCopies", spec := "limCopies", unfollowed := true, recurses := true, apart := false }
def LimCopiesSaid : Prop := limCopiesRow.holds Try.pinned (OpenSpec.ofChange limCopiesSpec)

/-- ITS FALSE NEIGHBOUR: 'it returns false'. Refute it at one input. -/
def limCopiesWrong : ChangeSpec := { name := "limCopies", fn := fun _ => fun
  | [d1, d2] => { results := [.lit (.bool false)], args := [d1, d2] }
  | _ => none }
def LimCopiesWrongFalsely : Prop := limCopiesRow.holds Try.pinned (OpenSpec.ofChange limCopiesWrong)

/-- 'girolaw10.LimSquares': WHATEVER THE INPUT: true; the input reads as it did. -/
def limSquaresSpec : ChangeSpec := { name := "limSquares", fn := fun _ => fun
  | [d1, d2, d3, d4] => { results := [.lit (.bool true)], args := [d1, d2, d3, d4] }
  | _ => none }
def limSquaresRow : OpenClaim := { program := "ytpaieecbedgeaaa", sum := "2c90ccbd695a03860d09d371d0845c271966e465559701dafa0cc0813cb6133b", func := "giro/girolaw10.LimSquares", spec := "limSquares", unfollowed := true, recurses := true, apart := false }
def LimSquaresSaid : Prop := limSquaresRow.holds Try.pinned (OpenSpec.ofChange limSquaresSpec)

/-- ITS FALSE NEIGHBOUR: 'it returns false'. Refute it at one input. -/
def limSquaresWrong : ChangeSpec := { name := "limSquares", fn := fun _ => fun
  | [d1, d2, d3, d4] => { results := [.lit (.bool false)], args := [d1, d2, d3, d4] }
  | _ => none }
def LimSquaresWrongFalsely : Prop := limSquaresRow.holds Try.pinned (OpenSpec.ofChange limSquaresWrong)

/- THE SECOND FORM. 'bulk': how many values and letters a reading holds, each counted each time it is reached (what is shared counts as often as it is met; a slice's spare places count too). A statement '..UptoSaid' is the law's where the arguments, and the package variables that the reading takes, are together of bulk at most 1048576: NARROWER than '..Said'. Prove '..Said' where nothing that the law and all that it calls make is longer than what came in: it says more and counts as full. Else prove '..UptoSaid'. A law counts once. -/
mutual
def uptoBulk {H : Type} : DataW H → Nat
  | .lit (.string bytes) => bytes.length + 1
  | .lit _ => 1
  | .nil => 1
  | .ptr d => uptoBulk d + 1
  | .slice elems spare => uptoBulkAll elems + uptoBulkAll spare + 1
  | .agg parts => uptoBulkAll parts + 1
  | .iface _ d => uptoBulk d + 1
  | .map entries => uptoBulkEntries entries + 1
  | .held _ => 1
def uptoBulkAll {H : Type} : List (DataW H) → Nat
  | [] => 0
  | d :: r => uptoBulk d + uptoBulkAll r
def uptoBulkEntries {H : Type} : List (Lit × DataW H) → Nat
  | [] => 0
  | x :: r => uptoBulkEntry x + uptoBulkEntries r
def uptoBulkEntry {H : Type} : Lit × DataW H → Nat
  | (.string bytes, d) => bytes.length + uptoBulk d + 1
  | (_, d) => uptoBulk d + 1
 end
def uptoSmall : (H : Type) → List (DataW H) → Bool := fun _ ds => decide (uptoBulkAll ds ≤ 1048576)
def OpenSpec.upto (s : _root_.Go.ChangeSpec) : _root_.Go.OpenSpec := { _root_.Go.OpenSpec.ofChange s with cond := some uptoSmall }

/-- 'girolaw10.LimZero', WHERE WHAT IT READS IS OF BULK AT MOST 1048576: true; the input reads as it did. -/
def limZeroUptoRow : OpenClaim := { program := "ytpaieecbedgeaaa", sum := "2c90ccbd695a03860d09d371d0845c271966e465559701dafa0cc0813cb6133b", func := "giro/girolaw10.LimZero", spec := "limZero", unfollowed := true, recurses := true, apart := false, narrowed := true }
def LimZeroUptoSaid : Prop := limZeroUptoRow.holds Try.pinned (OpenSpec.upto limZeroSpec)

/-- 'girolaw10.LimCopies', WHERE WHAT IT READS IS OF BULK AT MOST 1048576: true; the input reads as it did. -/
def limCopiesUptoRow : OpenClaim := { program := "ytpaieecbedgeaaa", sum := "2c90ccbd695a03860d09d371d0845c271966e465559701dafa0cc0813cb6133b", func := "giro/girolaw10.LimCopies", spec := "limCopies", unfollowed := true, recurses := true, apart := false, narrowed := true }
def LimCopiesUptoSaid : Prop := limCopiesUptoRow.holds Try.pinned (OpenSpec.upto limCopiesSpec)

/-- 'girolaw10.LimSquares', WHERE WHAT IT READS IS OF BULK AT MOST 1048576: true; the input reads as it did. -/
def limSquaresUptoRow : OpenClaim := { program := "ytpaieecbedgeaaa", sum := "2c90ccbd695a03860d09d371d0845c271966e465559701dafa0cc0813cb6133b", func := "giro/girolaw10.LimSquares", spec := "limSquares", unfollowed := true, recurses := true, apart := false, narrowed := true }
def LimSquaresUptoSaid : Prop := limSquaresUptoRow.holds Try.pinned (OpenSpec.upto limSquaresSpec)

end Rows
end Go.Proofs.Ytpaieecbedgeaaa
