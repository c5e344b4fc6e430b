/-
  row.with, row.Put.
-/
import Derived.Test.YtmfmdicdbjghkaaRowFind
import Derived.Test.YtmfmdicdbjghkaaRowSearch
import Derived.Test.YtmfmdicdbjghkaaPFacts
namespace Go.Proofs.Ytmfmdicdbjghkaa
open Go.RowKit
set_option linter.unusedVariables false
set_option linter.unusedSimpArgs false



end Go.Proofs.Ytmfmdicdbjghkaa
