/-
  Payments, and rows of payments, as a law is handed them.
-/
import Derived.Test.YtmfmdicdbjghkaaPaySame
import Derived.Test.YtmfmdicdbjghkaaPlainSl
namespace Go.Proofs.Ytmfmdicdbjghkaa
open Go.ChangeShapes Go.WideShapes Go.ChangeAt Go.RowKit
set_option linter.unusedVariables false

/-- Each number of it is an int64. -/
def Wf7 (p : P7) : Prop := (Lit.int .i64 p.id).wf = true ∧ (Lit.int .i64 p.fr).wf = true ∧ (Lit.int .i64 p.to).wf = true ∧ (Lit.int .i64 p.am).wf = true ∧ (Lit.int .i64 p.cl).wf = true ∧ (Lit.int .i64 p.st).wf = true ∧ (Lit.int .i64 p.ti).wf = true

theorem pays_of {w : World} {a : Option Addr} {len : Nat} {Z : Nat → Nat → Int} (h : PlainRows w a len 7 Z) : ∃ L : List P7, Pays w a len L ∧ ∀ p ∈ L, Wf7 p := by
  rcases h with h | ⟨b, off, ha, hb, hc⟩
  · exact ⟨[], ⟨h, .inl rfl⟩, fun p hp => by simp at hp⟩
  · refine ⟨(List.range len).map fun i => (Z i 0, Z i 1, Z i 2, Z i 3, Z i 4, Z i 5, Z i 6), ⟨by simp, .inr ⟨b, off, ha, fun i hi => ?_⟩⟩, fun p hp => ?_⟩
    · have hi' : i < len := by simpa using hi
      have e : ((List.range len).map fun i => ((Z i 0, Z i 1, Z i 2, Z i 3, Z i 4, Z i 5, Z i 6) : P7)).getD i p70 = (Z i 0, Z i 1, Z i 2, Z i 3, Z i 4, Z i 5, Z i 6) := by simp [List.getD_eq_getElem?_getD, hi']
      rw [e]
      exact ⟨(hc i hi' 0 (by omega)).1, (hc i hi' 1 (by omega)).1, (hc i hi' 2 (by omega)).1, (hc i hi' 3 (by omega)).1, (hc i hi' 4 (by omega)).1, (hc i hi' 5 (by omega)).1, (hc i hi' 6 (by omega)).1⟩
    · obtain ⟨i, hi, rfl⟩ := List.mem_map.1 hp
      have hi' : i < len := by simpa using hi
      exact ⟨(hc i hi' 0 (by omega)).2, (hc i hi' 1 (by omega)).2, (hc i hi' 2 (by omega)).2, (hc i hi' 3 (by omega)).2, (hc i hi' 4 (by omega)).2, (hc i hi' 5 (by omega)).2, (hc i hi' 6 (by omega)).2⟩

/-- A row of payments that came in. -/
def PaysIn (w : World) (a : Option Addr) (len cap : Nat) (L : List P7) : Prop := Pays w a len L ∧ (∀ p ∈ L, Wf7 p) ∧ len ≤ cap ∧ cap ≤ maxLen ∧ (a = none → cap = 0)

end Go.Proofs.Ytmfmdicdbjghkaa
