/-
  row.Is.
-/
import Derived.Test.YtmfmdicdbjghkaaRowPut
namespace Go.Proofs.Ytmfmdicdbjghkaa
open Go.RowKit
set_option linter.unusedVariables false
set_option linter.unusedSimpArgs false

theorem qIs_long {L : List P7} (h : 40 < L.length) : false = qIs L := by
  symm
  apply qIs_no
  intro hq
  have := hq.1
  omega
theorem qIs_bad {L : List P7} (h : ¬ L.Pairwise QR) : false = qIs L := by
  symm
  apply qIs_no
  intro hq
  exact h hq.2
theorem qIs_all {L : List P7} {k : Nat} (hk : k = L.length) (h : (L.take k).Pairwise QR) (h4 : L.length ≤ 40) : true = qIs L := by
  rw [hk, List.take_length] at h
  exact (qIs_iff.2 ⟨h4, h⟩).symm


end Go.Proofs.Ytmfmdicdbjghkaa
