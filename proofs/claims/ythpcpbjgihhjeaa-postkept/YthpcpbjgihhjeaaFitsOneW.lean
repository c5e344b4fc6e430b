/-
  FitsOne: what is common.
-/
import Derived.Test.YthpcpbjgihhjeaaSomeLay
import Derived.Test.YthpcpbjgihhjeaaFitsOnePure
import Derived.Test.YthpcpbjgihhjeaaKnown15
import Derived.Test.YthpcpbjgihhjeaaRowBase
import Derived.Deep.CutRange
namespace Go.Proofs.Ythpcpbjgihhjeaa
open Go.RowKit
set_option linter.unusedVariables false
set_option linter.unusedSimpArgs false
theorem w64_three {x y z : Int} (h1 : IntKind.i64.wrap x = x) (h2 : IntKind.i64.wrap y = y) (h3 : IntKind.i64.wrap z = z) : W64 [x, y, z] := by
  intro n hn
  simp only [List.mem_cons, List.not_mem_nil, or_false] at hn
  rcases hn with rfl | rfl | rfl
  · exact h1
  · exact h2
  · exact h3
theorem w64_rows (x : Int) (h : IntKind.i64.wrap x = x) : ∀ z ∈ [[-1, x, -1], [-1, -1, -1], [-1, -1, -1]], W64 z := by
  intro z hz
  simp only [List.mem_cons, List.not_mem_nil, or_false] at hz
  rcases hz with rfl | rfl | rfl
  · exact w64_three (by decide) h (by decide)
  · exact w64_three (by decide) (by decide) (by decide)
  · exact w64_three (by decide) (by decide) (by decide)
theorem w64_pos {x y : Int} (h : IntKind.i64.wrap x = x) (k : IntKind.i64.wrap y = y) : ∀ z ∈ [[0, x, 0], [y, 0, 0], [0, 0, 0]], W64 z := by
  intro z hz
  simp only [List.mem_cons, List.not_mem_nil, or_false] at hz
  rcases hz with rfl | rfl | rfl
  · exact w64_three (by decide) h (by decide)
  · exact w64_three k (by decide) (by decide)
  · exact w64_three (by decide) (by decide) (by decide)

end Go.Proofs.Ythpcpbjgihhjeaa
