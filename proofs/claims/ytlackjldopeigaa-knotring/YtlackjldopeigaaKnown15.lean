/-
  girolaw15.known: six, and three back.
-/
import Derived.Test.YtlackjldopeigaaFitsRefAll
import Derived.Test.YtlackjldopeigaaSomeGood
import Derived.Test.YtlackjldopeigaaRowRefs
namespace Go.Proofs.Ytlackjldopeigaa
open Go.RowKit
set_option linter.unusedVariables false
set_option linter.unusedSimpArgs false

theorem ints_lit (w : World) (k : Nat) (hk : k ≤ 1000000) : IGood (w.alloc (.cells #[.int .i64 k] 3)) (some ⟨w.heap.size, 0, none⟩) 1 1 [k] := by
  refine ⟨⟨rfl, intsL_wf (fun i hi => by obtain rfl := List.mem_singleton.1 hi; exact hk), .inr ⟨_, _, rfl, fun i hi => ?_⟩⟩, rfl, Nat.le_refl _, by omega, fun h => by simp at h⟩
  have hi0 : i = 0 := by have : (intsL [k]).length = 1 := rfl; omega
  subst hi0
  rw [cell_new]; rfl
end Go.Proofs.Ytlackjldopeigaa
