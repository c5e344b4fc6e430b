/-
  What a row that rowed makes is like (plain lists).
-/
import Derived.Test.YtmfmdicdbjghkaaRowed
namespace Go.Proofs.Ytmfmdicdbjghkaa
open Go.RowKit
set_option linter.unusedVariables false
set_option linter.unusedSimpArgs false

/-- A payment as rowed leaves it. -/
def RowedP (k : Nat) (p : P7) : Prop := (1 ≤ p.id ∧ p.id ≤ k) ∧ (0 ≤ p.fr ∧ p.fr ≤ 2) ∧ (0 ≤ p.to ∧ p.to ≤ 2) ∧ ¬ p.fr = p.to ∧ (1 ≤ p.am ∧ p.am ≤ 32) ∧ (1 ≤ p.cl ∧ p.cl ≤ 3) ∧ (0 ≤ p.st ∧ p.st ≤ 7) ∧ (p.st ≤ p.ti ∧ p.ti ≤ 22)
theorem rowP_ok (k : Nat) (p : P7) : RowedP (k + 1) (rowP k p) := by
  unfold RowedP rowP rowTo3
  simp only [P7.id, P7.fr, P7.to, P7.am, P7.cl, P7.st, P7.ti]
  refine ⟨by omega, by omega, ?_, ?_, by omega, by omega, by omega, by omega⟩
  · split <;> omega
  · split <;> omega
theorem rowTo_ok (L : List P7) : ∀ k, k ≤ 40 → Que (rowTo L k) ∧ (rowTo L k).length = k ∧ ∀ p ∈ rowTo L k, RowedP k p
  | 0, _ => ⟨Que.nil, rfl, fun p hp => by simp [rowTo] at hp⟩
  | k + 1, hk => by
    obtain ⟨h1, h2, h3⟩ := rowTo_ok L k (by omega)
    have hn : qHas (rowTo L k) (rowP k (L.getD k p70)).id = false := by
      rw [has_not]
      intro p hp e
      have := (h3 p hp).1.2
      rw [e] at this
      simp only [rowP, P7.id] at this
      omega
    have hp := put_ins hn (by omega : (rowTo L k).length < 40)
    refine ⟨h1.put _, ?_, ?_⟩
    · show (qPut _ _).length = _
      rw [hp.1, qIns_len (by have := qBeh_le (rowTo L k) (rowP k (L.getD k p70)); omega)]
      omega
    · intro p hm
      have hm : p ∈ qPut (rowTo L k) (rowP k (L.getD k p70)) := hm
      rw [hp.1] at hm
      have : p = rowP k (L.getD k p70) ∨ p ∈ rowTo L k := by
        simp only [qIns, List.mem_append, List.mem_cons, List.not_mem_nil, or_false] at hm
        rcases hm with hm | hm | hm
        · exact .inr (List.mem_of_mem_take hm)
        · exact .inl hm
        · exact .inr (List.mem_of_mem_drop hm)
      rcases this with rfl | h
      · exact rowP_ok k _
      · obtain ⟨a, b⟩ := h3 p h
        exact ⟨⟨a.1, by have := a.2; omega⟩, b⟩
theorem rowed_ok {L : List P7} (h : L.length ≤ 40) : Que (rowedL L) ∧ (rowedL L).length = L.length ∧ ∀ p ∈ rowedL L, RowedP L.length p := rowTo_ok L _ h

end Go.Proofs.Ytmfmdicdbjghkaa
