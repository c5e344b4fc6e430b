/-
  slices.Concat and slices.Grow of rows of payments.
-/
import Derived.Test.YtmfmdicdbjghkaaPayRows
import Derived.Lib.AppendZeros
namespace Go.Proofs.Ytmfmdicdbjghkaa
open Go.RowKit
set_option linter.unusedVariables false
set_option linter.unusedSimpArgs false

/-- Rows of payments that stand at b, one behind the other. -/
def Spine (w : World) (b : Nat) (Ls : List (List P7)) : Prop :=
  ∀ i, i < Ls.length → ∃ a n c, w.cell? ⟨b, i, none⟩ = some (.slice a n c) ∧ PGood w a n c (Ls.getD i [])
theorem Spine.below {w w' : World} {b : Nat} {Ls : List (List P7)} (h : Spine w b Ls) (k : Below w.heap.size w w') : Spine w' b Ls := by
  intro i hi
  obtain ⟨a, n, c, h1, h2⟩ := h i hi
  exact ⟨a, n, c, (k.cell (p := ⟨b, i, none⟩) (block_lt_of_cell h1)).trans h1, h2.below k⟩

theorem flat_snoc (Ls : List (List P7)) (k : Nat) (hk : k < Ls.length) : (Ls.take (k + 1)).flatten = (Ls.take k).flatten ++ Ls.getD k [] := by
  rw [take_snocA Ls [] k hk, List.flatten_append]
  simp
theorem flat_le (Ls : List (List P7)) (k : Nat) : (Ls.take k).flatten.length ≤ Ls.flatten.length := by
  have : (Ls.take k).flatten.length + (Ls.drop k).flatten.length = Ls.flatten.length := by rw [← List.length_append, ← List.flatten_append, List.take_append_drop]
  omega



end Go.Proofs.Ytmfmdicdbjghkaa
