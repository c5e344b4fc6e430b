/-
  fits on books of three accounts and a row that rowed makes; fits.Short of payments that may be.
-/
import Derived.Test.YtajmbcbochjfmaaKnown15
import Derived.Test.YtajmbcbochjfmaaRowRefs
import Derived.Test.YtajmbcbochjfmaaRowBase
namespace Go.Proofs.Ytajmbcbochjfmaa
open Go.RowKit
set_option linter.unusedVariables false
set_option linter.unusedSimpArgs false

theorem short_all {b : Bks} {L : List P7} (h : allB b L = true) : (if allB b L then shortL b L else []) = shortL b L := by rw [h]; rfl
theorem rowed_may {p : P7} {k : Nat} (h : RowedP k p) : mayB 3 p = true := by
  obtain ⟨_, h1, h2, h3, h4, h5, _⟩ := h
  exact mayB_yes.2 ⟨by omega, by omega, h3, by omega, h5⟩
theorem rowed_all {b : Bks} {L : List P7} {k : Nat} (h3 : b.A.length = 3) (hl : L.length ≤ 64) (h : ∀ p ∈ L, RowedP k p) : allB b L = true := by
  unfold allB
  rw [Bool.and_eq_true, decide_eq_true_eq, List.all_eq_true]
  exact ⟨fun p hp => by rw [h3]; exact rowed_may (h p hp), hl⟩
end Go.Proofs.Ytajmbcbochjfmaa
