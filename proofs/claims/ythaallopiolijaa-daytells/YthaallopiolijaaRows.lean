/-
  No cell of these rows narrows 'for every input' (looked for: loops, veiled, ifaces, maps, wideKeys, modest, calm, conditions, laid).
  DERIVED. THE GIVEN ROWS OF THIS SEAT. 5 by the template 'for every input the law returns true; each argument reads behind the call as it read before'; 0 by the template 'total and deterministic' (their statements: YthaallopiolijaaTotals.lean).
  GIVEN WITH THE SEED: the statements are not yours to turn. If you find one false, say at which input.
  Laid BY PROGRAM, IN A SANDBOX (cutbox-rows.mjs): the forced cells as the released guide's own fill.sh prints them over the translation 47ecbfe018dffecd… (all of the seat's roots in one cut). By AI agents, Wed Nov 11 2026. No macro, syntax, notation, axiom, sorry.
-/
import Derived.Test.YthaallopiolijaaChecked
import GoSem.Claim
import GoSem.ClaimJoined
import GoSem.ClaimMapViews
import Derived.JoinedTies
import Derived.KernelRfl
namespace Go.Proofs.Ythaallopiolijaa
/- THE CELL 'sum', in the pinned program and in every row, IS THE sha256 OF THE DUMP (.gsa) THAT YthaallopiolijaaProg.lean LOADS. Nothing in Lean hashes anything: it is a label: what it is worth is what the hold of that sum in a sandbox is worth. -/
noncomputable def Try.pinned : Pinned := { name := "ythaallopiolijaa", sum := "47ecbfe018dffecdc55e15c9ad671e843c4d513e4d87f36d1db35224510a86bc", checked := Try.checked }
namespace Rows
def none {H : Type} : Left H := { results := [], args := [] }

/-- 'girolaw7.DayIs': WHATEVER THE INPUT: true; the input reads as it did. -/
def dayIsSpec : ChangeSpec := { name := "dayIs", fn := fun _ => fun
  | [d] => { results := [.lit (.bool true)], args := [d] }
  | _ => none }
def dayIsRow : OpenClaim := { program := "ythaallopiolijaa", sum := "47ecbfe018dffecdc55e15c9ad671e843c4d513e4d87f36d1db35224510a86bc", func := "giro/girolaw7.DayIs", spec := "dayIs", apart := false }
def DayIsSaid : Prop := dayIsRow.holds Try.pinned (OpenSpec.ofChange dayIsSpec)

/-- ITS FALSE NEIGHBOUR: 'it returns false'. Refute it at one input. -/
def dayIsWrong : ChangeSpec := { name := "dayIs", fn := fun _ => fun
  | [d] => { results := [.lit (.bool false)], args := [d] }
  | _ => none }
def DayIsWrongFalsely : Prop := dayIsRow.holds Try.pinned (OpenSpec.ofChange dayIsWrong)

/-- 'girolaw7.DayTells': WHATEVER THE INPUT: true; the input reads as it did. -/
def dayTellsSpec : ChangeSpec := { name := "dayTells", fn := fun _ => fun
  | [d1, d2, d3] => { results := [.lit (.bool true)], args := [d1, d2, d3] }
  | _ => none }
def dayTellsRow : OpenClaim := { program := "ythaallopiolijaa", sum := "47ecbfe018dffecdc55e15c9ad671e843c4d513e4d87f36d1db35224510a86bc", func := "giro/girolaw7.DayTells", spec := "dayTells", apart := false }
def DayTellsSaid : Prop := dayTellsRow.holds Try.pinned (OpenSpec.ofChange dayTellsSpec)

/-- ITS FALSE NEIGHBOUR: 'it returns false'. Refute it at one input. -/
def dayTellsWrong : ChangeSpec := { name := "dayTells", fn := fun _ => fun
  | [d1, d2, d3] => { results := [.lit (.bool false)], args := [d1, d2, d3] }
  | _ => none }
def DayTellsWrongFalsely : Prop := dayTellsRow.holds Try.pinned (OpenSpec.ofChange dayTellsWrong)

/-- 'girolaw7.DayOver': WHATEVER THE INPUT: true; the input reads as it did. -/
def dayOverSpec : ChangeSpec := { name := "dayOver", fn := fun _ => fun
  | [d1, d2, d3] => { results := [.lit (.bool true)], args := [d1, d2, d3] }
  | _ => none }
def dayOverRow : OpenClaim := { program := "ythaallopiolijaa", sum := "47ecbfe018dffecdc55e15c9ad671e843c4d513e4d87f36d1db35224510a86bc", func := "giro/girolaw7.DayOver", spec := "dayOver", apart := false }
def DayOverSaid : Prop := dayOverRow.holds Try.pinned (OpenSpec.ofChange dayOverSpec)

/-- ITS FALSE NEIGHBOUR: 'it returns false'. Refute it at one input. -/
def dayOverWrong : ChangeSpec := { name := "dayOver", fn := fun _ => fun
  | [d1, d2, d3] => { results := [.lit (.bool false)], args := [d1, d2, d3] }
  | _ => none }
def DayOverWrongFalsely : Prop := dayOverRow.holds Try.pinned (OpenSpec.ofChange dayOverWrong)

/-- 'girolaw7.DayKnown': WHATEVER THE INPUT: true; the input reads as it did. -/
def dayKnownSpec : ChangeSpec := { name := "dayKnown", fn := fun _ => fun
  | [d] => { results := [.lit (.bool true)], args := [d] }
  | _ => none }
def dayKnownRow : OpenClaim := { program := "ythaallopiolijaa", sum := "47ecbfe018dffecdc55e15c9ad671e843c4d513e4d87f36d1db35224510a86bc", func := "giro/girolaw7.DayKnown", spec := "dayKnown", apart := false }
def DayKnownSaid : Prop := dayKnownRow.holds Try.pinned (OpenSpec.ofChange dayKnownSpec)

/-- ITS FALSE NEIGHBOUR: 'it returns false'. Refute it at one input. -/
def dayKnownWrong : ChangeSpec := { name := "dayKnown", fn := fun _ => fun
  | [d] => { results := [.lit (.bool false)], args := [d] }
  | _ => none }
def DayKnownWrongFalsely : Prop := dayKnownRow.holds Try.pinned (OpenSpec.ofChange dayKnownWrong)

/-- 'girolaw7.DaySolves': WHATEVER THE INPUT: true; the input reads as it did. -/
def daySolvesSpec : ChangeSpec := { name := "daySolves", fn := fun _ => fun
  | [d1, d2] => { results := [.lit (.bool true)], args := [d1, d2] }
  | _ => none }
def daySolvesRow : OpenClaim := { program := "ythaallopiolijaa", sum := "47ecbfe018dffecdc55e15c9ad671e843c4d513e4d87f36d1db35224510a86bc", func := "giro/girolaw7.DaySolves", spec := "daySolves", apart := false }
def DaySolvesSaid : Prop := daySolvesRow.holds Try.pinned (OpenSpec.ofChange daySolvesSpec)

/-- ITS FALSE NEIGHBOUR: 'it returns false'. Refute it at one input. -/
def daySolvesWrong : ChangeSpec := { name := "daySolves", fn := fun _ => fun
  | [d1, d2] => { results := [.lit (.bool false)], args := [d1, d2] }
  | _ => none }
def DaySolvesWrongFalsely : Prop := daySolvesRow.holds Try.pinned (OpenSpec.ofChange daySolvesWrong)

/- THE SECOND FORM. 'bulk': how many values and letters a reading holds, each counted each time it is reached (what is shared counts as often as it is met; a slice's spare places count too). A statement '..UptoSaid' is the law's where the arguments, and the package variables that the reading takes, are together of bulk at most 1048576: NARROWER than '..Said'. Prove '..Said' where nothing that the law and all that it calls make is longer than what came in: it says more and counts as full. Else prove '..UptoSaid'. A law counts once. -/
mutual
def uptoBulk {H : Type} : DataW H → Nat
  | .lit (.string bytes) => bytes.length + 1
  | .lit _ => 1
  | .nil => 1
  | .ptr d => uptoBulk d + 1
  | .slice elems spare => uptoBulkAll elems + uptoBulkAll spare + 1
  | .agg parts => uptoBulkAll parts + 1
  | .iface _ d => uptoBulk d + 1
  | .map entries => uptoBulkEntries entries + 1
  | .held _ => 1
def uptoBulkAll {H : Type} : List (DataW H) → Nat
  | [] => 0
  | d :: r => uptoBulk d + uptoBulkAll r
def uptoBulkEntries {H : Type} : List (Lit × DataW H) → Nat
  | [] => 0
  | x :: r => uptoBulkEntry x + uptoBulkEntries r
def uptoBulkEntry {H : Type} : Lit × DataW H → Nat
  | (.string bytes, d) => bytes.length + uptoBulk d + 1
  | (_, d) => uptoBulk d + 1
 end
def uptoSmall : (H : Type) → List (DataW H) → Bool := fun _ ds => decide (uptoBulkAll ds ≤ 1048576)
def OpenSpec.upto (s : _root_.Go.ChangeSpec) : _root_.Go.OpenSpec := { _root_.Go.OpenSpec.ofChange s with cond := some uptoSmall }

/-- 'girolaw7.DayIs', WHERE WHAT IT READS IS OF BULK AT MOST 1048576: true; the input reads as it did. -/
def dayIsUptoRow : OpenClaim := { program := "ythaallopiolijaa", sum := "47ecbfe018dffecdc55e15c9ad671e843c4d513e4d87f36d1db35224510a86bc", func := "giro/girolaw7.DayIs", spec := "dayIs", apart := false, narrowed := true }
def DayIsUptoSaid : Prop := dayIsUptoRow.holds Try.pinned (OpenSpec.upto dayIsSpec)

/-- 'girolaw7.DayTells', WHERE WHAT IT READS IS OF BULK AT MOST 1048576: true; the input reads as it did. -/
def dayTellsUptoRow : OpenClaim := { program := "ythaallopiolijaa", sum := "47ecbfe018dffecdc55e15c9ad671e843c4d513e4d87f36d1db35224510a86bc", func := "giro/girolaw7.DayTells", spec := "dayTells", apart := false, narrowed := true }
def DayTellsUptoSaid : Prop := dayTellsUptoRow.holds Try.pinned (OpenSpec.upto dayTellsSpec)

/-- 'girolaw7.DayOver', WHERE WHAT IT READS IS OF BULK AT MOST 1048576: true; the input reads as it did. -/
def dayOverUptoRow : OpenClaim := { program := "ythaallopiolijaa", sum := "47ecbfe018dffecdc55e15c9ad671e843c4d513e4d87f36d1db35224510a86bc", func := "giro/girolaw7.DayOver", spec := "dayOver", apart := false, narrowed := true }
def DayOverUptoSaid : Prop := dayOverUptoRow.holds Try.pinned (OpenSpec.upto dayOverSpec)

/-- 'girolaw7.DayKnown', WHERE WHAT IT READS IS OF BULK AT MOST 1048576: true; the input reads as it did. -/
def dayKnownUptoRow : OpenClaim := { program := "ythaallopiolijaa", sum := "47ecbfe018dffecdc55e15c9ad671e843c4d513e4d87f36d1db35224510a86bc", func := "giro/girolaw7.DayKnown", spec := "dayKnown", apart := false, narrowed := true }
def DayKnownUptoSaid : Prop := dayKnownUptoRow.holds Try.pinned (OpenSpec.upto dayKnownSpec)

/-- 'girolaw7.DaySolves', WHERE WHAT IT READS IS OF BULK AT MOST 1048576: true; the input reads as it did. -/
def daySolvesUptoRow : OpenClaim := { program := "ythaallopiolijaa", sum := "47ecbfe018dffecdc55e15c9ad671e843c4d513e4d87f36d1db35224510a86bc", func := "giro/girolaw7.DaySolves", spec := "daySolves", apart := false, narrowed := true }
def DaySolvesUptoSaid : Prop := daySolvesUptoRow.holds Try.pinned (OpenSpec.upto daySolvesSpec)

end Rows
end Go.Proofs.Ythaallopiolijaa
