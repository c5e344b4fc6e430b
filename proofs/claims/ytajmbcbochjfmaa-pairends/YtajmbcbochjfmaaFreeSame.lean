/-
  girolaw18.same; what free.Run is to answer, as a premise.
-/
import Derived.Test.YtajmbcbochjfmaaFreeRun
import Derived.Test.YtajmbcbochjfmaaRowRefs
import Derived.Test.YtajmbcbochjfmaaLimOne
namespace Go.Proofs.Ytajmbcbochjfmaa
open Go.RowKit
set_option linter.unusedVariables false
set_option linter.unusedSimpArgs false

/-- A function answers as Run does. -/
def RunsAs (f : FuncId) : Prop := ∀ (x : BA) (b : Bks) (a : Option Addr) (n c : Nat) (L : List P7) (t : Int) (w : World), Bk w x b → Good b → PGood w a n c L → Que L → FrOk L → Calls Try.prog f #[x.val, .slice a n c, .int .i64 t] w (FreeEnd w (runF b L t))


end Go.Proofs.Ytajmbcbochjfmaa
