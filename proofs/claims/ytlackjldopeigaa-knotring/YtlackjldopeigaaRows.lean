/-
  No cell of these rows narrows 'for every input' (looked for: loops, veiled, ifaces, maps, wideKeys, modest, calm, conditions, laid).
  DERIVED. THE GIVEN ROWS OF THIS SEAT. 6 by the template 'for every input the law returns true; each argument reads behind the call as it read before'; 0 by the template 'total and deterministic' (their statements: YtlackjldopeigaaTotals.lean).
  GIVEN WITH THE SEED: the statements are not yours to turn. If you find one false, say at which input.
  Laid BY PROGRAM, IN A SANDBOX (cutbox-rows.mjs): the forced cells as the released guide's own fill.sh prints them over the translation fb25f5080f63052c… (all of the seat's roots in one cut). By AI agents, Wed Nov 11 2026. No macro, syntax, notation, axiom, sorry.
-/
import Derived.Test.YtlackjldopeigaaChecked
import GoSem.Claim
import GoSem.ClaimJoined
import GoSem.ClaimMapViews
import Derived.JoinedTies
import Derived.KernelRfl
namespace Go.Proofs.Ytlackjldopeigaa
/- THE CELL 'sum', in the pinned program and in every row, IS THE sha256 OF THE DUMP (.gsa) THAT YtlackjldopeigaaProg.lean LOADS. Nothing in Lean hashes anything: it is a label: what it is worth is what the hold of that sum in a sandbox is worth. -/
noncomputable def Try.pinned : Pinned := { name := "ytlackjldopeigaa", sum := "fb25f5080f63052c54e82cc6b49422d416321d9e0b49ac09b82a2965f32cf8aa", checked := Try.checked }
namespace Rows
def none {H : Type} : Left H := { results := [], args := [] }

/-- 'girolaw20.KnotRuns': WHATEVER THE INPUT: true; the input reads as it did. -/
def knotRunsSpec : ChangeSpec := { name := "knotRuns", fn := fun _ => fun
  | [d1, d2, d3, d4] => { results := [.lit (.bool true)], args := [d1, d2, d3, d4] }
  | _ => none }
def knotRunsRow : OpenClaim := { program := "ytlackjldopeigaa", sum := "fb25f5080f63052c54e82cc6b49422d416321d9e0b49ac09b82a2965f32cf8aa", func := "giro/girolaw20.KnotRuns", spec := "knotRuns", inPlace := ["math/bits.Add64"], unfollowed := true, recurses := true, apart := false }
def KnotRunsSaid : Prop := knotRunsRow.holds Try.pinned (OpenSpec.ofChange knotRunsSpec)

/-- ITS FALSE NEIGHBOUR: 'it returns false'. Refute it at one input. -/
def knotRunsWrong : ChangeSpec := { name := "knotRuns", fn := fun _ => fun
  | [d1, d2, d3, d4] => { results := [.lit (.bool false)], args := [d1, d2, d3, d4] }
  | _ => none }
def KnotRunsWrongFalsely : Prop := knotRunsRow.holds Try.pinned (OpenSpec.ofChange knotRunsWrong)

/-- 'girolaw20.KnotBooks': WHATEVER THE INPUT: true; the input reads as it did. -/
def knotBooksSpec : ChangeSpec := { name := "knotBooks", fn := fun _ => fun
  | [d1, d2, d3] => { results := [.lit (.bool true)], args := [d1, d2, d3] }
  | _ => none }
def knotBooksRow : OpenClaim := { program := "ytlackjldopeigaa", sum := "fb25f5080f63052c54e82cc6b49422d416321d9e0b49ac09b82a2965f32cf8aa", func := "giro/girolaw20.KnotBooks", spec := "knotBooks", inPlace := ["math/bits.Add64"], unfollowed := true, recurses := true, apart := false }
def KnotBooksSaid : Prop := knotBooksRow.holds Try.pinned (OpenSpec.ofChange knotBooksSpec)

/-- ITS FALSE NEIGHBOUR: 'it returns false'. Refute it at one input. -/
def knotBooksWrong : ChangeSpec := { name := "knotBooks", fn := fun _ => fun
  | [d1, d2, d3] => { results := [.lit (.bool false)], args := [d1, d2, d3] }
  | _ => none }
def KnotBooksWrongFalsely : Prop := knotBooksRow.holds Try.pinned (OpenSpec.ofChange knotBooksWrong)

/-- 'girolaw20.KnotGreatest': WHATEVER THE INPUT: true; the input reads as it did. -/
def knotGreatestSpec : ChangeSpec := { name := "knotGreatest", fn := fun _ => fun
  | [d1, d2, d3, d4] => { results := [.lit (.bool true)], args := [d1, d2, d3, d4] }
  | _ => none }
def knotGreatestRow : OpenClaim := { program := "ytlackjldopeigaa", sum := "fb25f5080f63052c54e82cc6b49422d416321d9e0b49ac09b82a2965f32cf8aa", func := "giro/girolaw20.KnotGreatest", spec := "knotGreatest", inPlace := ["math/bits.Add64"], unfollowed := true, recurses := true, apart := false }
def KnotGreatestSaid : Prop := knotGreatestRow.holds Try.pinned (OpenSpec.ofChange knotGreatestSpec)

/-- ITS FALSE NEIGHBOUR: 'it returns false'. Refute it at one input. -/
def knotGreatestWrong : ChangeSpec := { name := "knotGreatest", fn := fun _ => fun
  | [d1, d2, d3, d4] => { results := [.lit (.bool false)], args := [d1, d2, d3, d4] }
  | _ => none }
def KnotGreatestWrongFalsely : Prop := knotGreatestRow.holds Try.pinned (OpenSpec.ofChange knotGreatestWrong)

/-- 'girolaw20.KnotAll': WHATEVER THE INPUT: true; the input reads as it did. -/
def knotAllSpec : ChangeSpec := { name := "knotAll", fn := fun _ => fun
  | [d1, d2, d3, d4] => { results := [.lit (.bool true)], args := [d1, d2, d3, d4] }
  | _ => none }
def knotAllRow : OpenClaim := { program := "ytlackjldopeigaa", sum := "fb25f5080f63052c54e82cc6b49422d416321d9e0b49ac09b82a2965f32cf8aa", func := "giro/girolaw20.KnotAll", spec := "knotAll", inPlace := ["math/bits.Add64"], unfollowed := true, recurses := true, apart := false }
def KnotAllSaid : Prop := knotAllRow.holds Try.pinned (OpenSpec.ofChange knotAllSpec)

/-- ITS FALSE NEIGHBOUR: 'it returns false'. Refute it at one input. -/
def knotAllWrong : ChangeSpec := { name := "knotAll", fn := fun _ => fun
  | [d1, d2, d3, d4] => { results := [.lit (.bool false)], args := [d1, d2, d3, d4] }
  | _ => none }
def KnotAllWrongFalsely : Prop := knotAllRow.holds Try.pinned (OpenSpec.ofChange knotAllWrong)

/-- 'girolaw20.KnotRing': WHATEVER THE INPUT: true; the input reads as it did. -/
def knotRingSpec : ChangeSpec := { name := "knotRing", fn := fun _ => fun
  | [d1, d2, d3, d4] => { results := [.lit (.bool true)], args := [d1, d2, d3, d4] }
  | _ => none }
def knotRingRow : OpenClaim := { program := "ytlackjldopeigaa", sum := "fb25f5080f63052c54e82cc6b49422d416321d9e0b49ac09b82a2965f32cf8aa", func := "giro/girolaw20.KnotRing", spec := "knotRing", inPlace := ["math/bits.Add64"], unfollowed := true, recurses := true, apart := false }
def KnotRingSaid : Prop := knotRingRow.holds Try.pinned (OpenSpec.ofChange knotRingSpec)

/-- ITS FALSE NEIGHBOUR: 'it returns false'. Refute it at one input. -/
def knotRingWrong : ChangeSpec := { name := "knotRing", fn := fun _ => fun
  | [d1, d2, d3, d4] => { results := [.lit (.bool false)], args := [d1, d2, d3, d4] }
  | _ => none }
def KnotRingWrongFalsely : Prop := knotRingRow.holds Try.pinned (OpenSpec.ofChange knotRingWrong)

/-- 'girolaw20.KnotPrefix': WHATEVER THE INPUT: true; the input reads as it did. -/
def knotPrefixSpec : ChangeSpec := { name := "knotPrefix", fn := fun _ => fun
  | [d1, d2] => { results := [.lit (.bool true)], args := [d1, d2] }
  | _ => none }
def knotPrefixRow : OpenClaim := { program := "ytlackjldopeigaa", sum := "fb25f5080f63052c54e82cc6b49422d416321d9e0b49ac09b82a2965f32cf8aa", func := "giro/girolaw20.KnotPrefix", spec := "knotPrefix", inPlace := ["math/bits.Add64"], unfollowed := true, recurses := true, apart := false }
def KnotPrefixSaid : Prop := knotPrefixRow.holds Try.pinned (OpenSpec.ofChange knotPrefixSpec)

/-- ITS FALSE NEIGHBOUR: 'it returns false'. Refute it at one input. -/
def knotPrefixWrong : ChangeSpec := { name := "knotPrefix", fn := fun _ => fun
  | [d1, d2] => { results := [.lit (.bool false)], args := [d1, d2] }
  | _ => none }
def KnotPrefixWrongFalsely : Prop := knotPrefixRow.holds Try.pinned (OpenSpec.ofChange knotPrefixWrong)

/- THE SECOND FORM. 'bulk': how many values and letters a reading holds, each counted each time it is reached (what is shared counts as often as it is met; a slice's spare places count too). A statement '..UptoSaid' is the law's where the arguments, and the package variables that the reading takes, are together of bulk at most 1048576: NARROWER than '..Said'. Prove '..Said' where nothing that the law and all that it calls make is longer than what came in: it says more and counts as full. Else prove '..UptoSaid'. A law counts once. -/
mutual
def uptoBulk {H : Type} : DataW H → Nat
  | .lit (.string bytes) => bytes.length + 1
  | .lit _ => 1
  | .nil => 1
  | .ptr d => uptoBulk d + 1
  | .slice elems spare => uptoBulkAll elems + uptoBulkAll spare + 1
  | .agg parts => uptoBulkAll parts + 1
  | .iface _ d => uptoBulk d + 1
  | .map entries => uptoBulkEntries entries + 1
  | .held _ => 1
def uptoBulkAll {H : Type} : List (DataW H) → Nat
  | [] => 0
  | d :: r => uptoBulk d + uptoBulkAll r
def uptoBulkEntries {H : Type} : List (Lit × DataW H) → Nat
  | [] => 0
  | x :: r => uptoBulkEntry x + uptoBulkEntries r
def uptoBulkEntry {H : Type} : Lit × DataW H → Nat
  | (.string bytes, d) => bytes.length + uptoBulk d + 1
  | (_, d) => uptoBulk d + 1
 end
def uptoSmall : (H : Type) → List (DataW H) → Bool := fun _ ds => decide (uptoBulkAll ds ≤ 1048576)
def OpenSpec.upto (s : _root_.Go.ChangeSpec) : _root_.Go.OpenSpec := { _root_.Go.OpenSpec.ofChange s with cond := some uptoSmall }

/-- 'girolaw20.KnotRuns', WHERE WHAT IT READS IS OF BULK AT MOST 1048576: true; the input reads as it did. -/
def knotRunsUptoRow : OpenClaim := { program := "ytlackjldopeigaa", sum := "fb25f5080f63052c54e82cc6b49422d416321d9e0b49ac09b82a2965f32cf8aa", func := "giro/girolaw20.KnotRuns", spec := "knotRuns", inPlace := ["math/bits.Add64"], unfollowed := true, recurses := true, apart := false, narrowed := true }
def KnotRunsUptoSaid : Prop := knotRunsUptoRow.holds Try.pinned (OpenSpec.upto knotRunsSpec)

/-- 'girolaw20.KnotBooks', WHERE WHAT IT READS IS OF BULK AT MOST 1048576: true; the input reads as it did. -/
def knotBooksUptoRow : OpenClaim := { program := "ytlackjldopeigaa", sum := "fb25f5080f63052c54e82cc6b49422d416321d9e0b49ac09b82a2965f32cf8aa", func := "giro/girolaw20.KnotBooks", spec := "knotBooks", inPlace := ["math/bits.Add64"], unfollowed := true, recurses := true, apart := false, narrowed := true }
def KnotBooksUptoSaid : Prop := knotBooksUptoRow.holds Try.pinned (OpenSpec.upto knotBooksSpec)

/-- 'girolaw20.KnotGreatest', WHERE WHAT IT READS IS OF BULK AT MOST 1048576: true; the input reads as it did. -/
def knotGreatestUptoRow : OpenClaim := { program := "ytlackjldopeigaa", sum := "fb25f5080f63052c54e82cc6b49422d416321d9e0b49ac09b82a2965f32cf8aa", func := "giro/girolaw20.KnotGreatest", spec := "knotGreatest", inPlace := ["math/bits.Add64"], unfollowed := true, recurses := true, apart := false, narrowed := true }
def KnotGreatestUptoSaid : Prop := knotGreatestUptoRow.holds Try.pinned (OpenSpec.upto knotGreatestSpec)

/-- 'girolaw20.KnotAll', WHERE WHAT IT READS IS OF BULK AT MOST 1048576: true; the input reads as it did. -/
def knotAllUptoRow : OpenClaim := { program := "ytlackjldopeigaa", sum := "fb25f5080f63052c54e82cc6b49422d416321d9e0b49ac09b82a2965f32cf8aa", func := "giro/girolaw20.KnotAll", spec := "knotAll", inPlace := ["math/bits.Add64"], unfollowed := true, recurses := true, apart := false, narrowed := true }
def KnotAllUptoSaid : Prop := knotAllUptoRow.holds Try.pinned (OpenSpec.upto knotAllSpec)

/-- 'girolaw20.KnotRing', WHERE WHAT IT READS IS OF BULK AT MOST 1048576: true; the input reads as it did. -/
def knotRingUptoRow : OpenClaim := { program := "ytlackjldopeigaa", sum := "fb25f5080f63052c54e82cc6b49422d416321d9e0b49ac09b82a2965f32cf8aa", func := "giro/girolaw20.KnotRing", spec := "knotRing", inPlace := ["math/bits.Add64"], unfollowed := true, recurses := true, apart := false, narrowed := true }
def KnotRingUptoSaid : Prop := knotRingUptoRow.holds Try.pinned (OpenSpec.upto knotRingSpec)

/-- 'girolaw20.KnotPrefix', WHERE WHAT IT READS IS OF BULK AT MOST 1048576: true; the input reads as it did. -/
def knotPrefixUptoRow : OpenClaim := { program := "ytlackjldopeigaa", sum := "fb25f5080f63052c54e82cc6b49422d416321d9e0b49ac09b82a2965f32cf8aa", func := "giro/girolaw20.KnotPrefix", spec := "knotPrefix", inPlace := ["math/bits.Add64"], unfollowed := true, recurses := true, apart := false, narrowed := true }
def KnotPrefixUptoSaid : Prop := knotPrefixUptoRow.holds Try.pinned (OpenSpec.upto knotPrefixSpec)

end Rows
end Go.Proofs.Ytlackjldopeigaa
