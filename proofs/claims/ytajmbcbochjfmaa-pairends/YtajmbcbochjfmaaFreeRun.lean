/-
  giroref18.Run: the document's answer.
-/
import Derived.Test.YtajmbcbochjfmaaFreeSt
import Derived.Test.YtajmbcbochjfmaaFreeRef
namespace Go.Proofs.Ytajmbcbochjfmaa
open Go.RowKit
set_option linter.unusedVariables false
set_option linter.unusedSimpArgs false

def lenV : Value → Nat
  | .slice _ n _ => n
  | _ => 0
theorem next_goes {b : Bks} {l : List P7} {t : Int} {p : P7} (h : nextP b l t = some p) : goesB b [p] = true := List.find?_some (p := fun p => goesB b [p]) h


end Go.Proofs.Ytajmbcbochjfmaa
