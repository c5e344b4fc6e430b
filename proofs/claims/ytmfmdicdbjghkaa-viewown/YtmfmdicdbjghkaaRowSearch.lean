/-
  row.behind, row.ahead; sort.Search.
-/
import Derived.Test.YtmfmdicdbjghkaaRowCmp
import Derived.Test.YtmfmdicdbjghkaaPayRows
namespace Go.Proofs.Ytmfmdicdbjghkaa
open Go.RowKit
set_option linter.unusedVariables false
set_option linter.unusedSimpArgs false



end Go.Proofs.Ytmfmdicdbjghkaa
