/-
  What calls leave, with a letter for a length.
-/
import Derived.Test.YtlackjldopeigaaKnotRef
import Derived.Test.YtlackjldopeigaaRowBase
namespace Go.Proofs.Ytlackjldopeigaa
open Go.RowKit
set_option linter.unusedVariables false
set_option linter.unusedSimpArgs false

def PEndN (w : World) (K : List P7) (n : Nat) (e : Ending) (w' : World) : Prop := ∃ a c, e = .returned (.slice a n c) ∧ PGood w' a n c K ∧ (∀ x, a = some x → w.heap.size ≤ x.block) ∧ Below w.heap.size w w'
theorem PEnd.num {w w' : World} {K : List P7} {n : Nat} {e : Ending} (h : PEnd w K e w') (hn : K.length = n) : PEndN w K n e w' := by
  subst hn
  exact h
def MostEndN (w : World) (M : List Nat) (N n : Nat) (e : Ending) (w' : World) : Prop := ∃ g c, e = .returned (.tuple #[.slice (some ⟨g, 0, none⟩) n c, .int .i64 N]) ∧ IGood w' (some ⟨g, 0, none⟩) n c M ∧ Below w.heap.size w w'
theorem MostEnd.num {w w' : World} {M : List Nat} {N n : Nat} {e : Ending} (h : MostEnd w M N e w') (hn : M.length = n) : MostEndN w M N n e w' := by
  subst hn
  obtain ⟨g, c, h1, h2, _, h3⟩ := h
  exact ⟨g, c, h1, h2, h3⟩
theorem IGood.cell0 {w : World} {g n c : Nat} {l : List Nat} (h : IGood w (some ⟨g, 0, none⟩) n c l) {k : Nat} (hk : k < n) : w.cell? ⟨g, k, none⟩ = some (.int .i64 (l.getD k 0 : Nat)) := by
  have hz := h.sl.2.2
  rcases hz with h0 | ⟨b, off, ha, hc⟩
  · have h1 := h.len
    have h2 := intsL_len l
    rw [h0] at h2
    simp at h2
    omega
  · simp at ha
    obtain ⟨rfl, rfl⟩ := ha
    have := hc k (by rw [intsL_len, ← h.len]; exact hk)
    rw [intsL_getD, Nat.zero_add] at this
    exact this

end Go.Proofs.Ytlackjldopeigaa
