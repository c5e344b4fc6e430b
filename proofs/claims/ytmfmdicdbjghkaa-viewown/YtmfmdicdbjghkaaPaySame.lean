/-
  pay: rows of payments, and whether two are one: the program's answer and the document's.
-/
import Derived.Test.YtmfmdicdbjghkaaPay7
namespace Go.Proofs.Ytmfmdicdbjghkaa
open Go.RowKit
set_option linter.unusedVariables false
set_option linter.unusedSimpArgs false

set_option synthInstance.maxSize 1000 in
/-- Are two rows one? -/
def eqP (xs ys : List P7) : Bool := decide (xs = ys)
theorem eqP_yes {xs ys : List P7} (h : xs = ys) : eqP xs ys = true := by subst h; simp [eqP]
theorem eqP_no {xs ys : List P7} (h : ¬ xs = ys) : eqP xs ys = false := by simp [eqP, h]
theorem eqP_iff {xs ys : List P7} : eqP xs ys = true ↔ xs = ys := ⟨fun h => Classical.byContradiction fun k => (by rw [eqP_no k] at h; cases h), eqP_yes⟩

/-- A slice of payments. -/
def Pays (w : World) (a : Option Addr) (len : Nat) (A : List P7) : Prop :=
  len = A.length ∧ (A = [] ∨ ∃ b off, a = some ⟨b, off, none⟩ ∧ ∀ i, i < A.length → At7 w b (off + i * 7) (A.getD i p70))
theorem Pays.below {w w' : World} {a : Option Addr} {len : Nat} {A : List P7} (h : Pays w a len A) (hb : Below w.heap.size w w') : Pays w' a len A := by
  refine ⟨h.1, ?_⟩
  rcases h.2 with h0 | ⟨b, off, ha, hc⟩
  · exact .inl h0
  · exact .inr ⟨b, off, ha, fun i hi => (hc i hi).below hb⟩
theorem Pays.nil (w : World) (a : Option Addr) : Pays w a 0 [] := ⟨rfl, .inl rfl⟩

end Go.Proofs.Ytmfmdicdbjghkaa
