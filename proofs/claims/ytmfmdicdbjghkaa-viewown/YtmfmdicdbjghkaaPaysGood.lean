/-
  A row of payments that came in, in full.
-/
import Derived.Test.YtmfmdicdbjghkaaPayRows
import Derived.Test.YtmfmdicdbjghkaaPayArg
namespace Go.Proofs.Ytmfmdicdbjghkaa
open Go.RowKit
set_option linter.unusedVariables false
theorem PaysIn.good {w : World} {a : Option Addr} {n c : Nat} {L : List P7} (h : PaysIn w a n c L) : PGood w a n c L := ⟨h.1, h.2.2.1, h.2.2.2.1, h.2.2.2.2⟩

end Go.Proofs.Ytmfmdicdbjghkaa
