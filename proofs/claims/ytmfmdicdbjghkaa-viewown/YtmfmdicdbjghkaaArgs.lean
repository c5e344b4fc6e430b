/-
  Slices of integers and integers as a law hands them in.
-/
import Derived.Test.YtmfmdicdbjghkaaSl
namespace Go.Proofs.Ytmfmdicdbjghkaa
open Go.RowKit

namespace Walk

/-- A slice of integers that came in: nil, or a row of cells. -/
def IsRow (k : IntKind) (w : World) (a : Option Addr) (len cap : Nat) (zs : List Int) : Prop :=
  (a = none ∧ len = 0 ∧ cap = 0 ∧ zs = []) ∨
  ∃ x, a = some x ∧ len ≤ cap ∧ cap ≤ maxLen ∧ zs.length = cap ∧ (∀ i, i < zs.length → w.cell? (x.add i) = some (.int k (zs.getD i 0))) ∧ ∀ n ∈ zs, (Lit.int k n).wf = true

theorem IsRow.sl {k : IntKind} {w : World} {a : Option Addr} {len cap : Nat} {zs : List Int} (h : IsRow k w a len cap zs) (hk : ∀ n, (Lit.int k n).wf = true → k.wrap n = n) :
    Sl k w a len (zs.take len) ∧ len ≤ cap ∧ cap ≤ 9223372036854775807 := by
  rcases h with ⟨rfl, rfl, rfl, rfl⟩ | ⟨x, rfl, hl, hm, hz, hcell, hwz⟩
  · exact ⟨Sl.nil _ _ _, by omega, by omega⟩
  · unfold maxLen at hm
    refine ⟨⟨by simp; omega, fun n hn => hk n (hwz n (List.mem_of_mem_take hn)), ?_⟩, hl, by omega⟩
    by_cases h0 : len = 0
    · subst h0; exact .inl (by simp)
    · obtain ⟨b, off, spot⟩ := x
      have hs := hcell 0 (by omega)
      have hspot : spot = none := by simpa [Addr.add] using World.cell?_spot hs
      subst hspot
      refine .inr ⟨b, off, rfl, ?_⟩
      intro i hi
      simp at hi
      have h := hcell i (by omega)
      rw [Addr.add_flat] at h
      rw [h]
      simp [List.getD_eq_getElem?_getD]
      rw [List.getElem?_take_of_lt (by omega)]

theorem wf_u8' (n : Int) (h : (Lit.int .u8 n).wf = true) : IntKind.u8.wrap n = n := by
  simp only [Lit.wf, Bool.and_eq_true, decide_eq_true_eq] at h
  refine u8_wf ?_ ?_
  · exact h.1
  · exact h.2
theorem wf_i64' (n : Int) (h : (Lit.int .i64 n).wf = true) : IntKind.i64.wrap n = n := by
  simp only [Lit.wf, Bool.and_eq_true, decide_eq_true_eq] at h
  refine i64_wf ?_ ?_
  · exact h.1
  · exact h.2

theorem IsRow.none {k : IntKind} {w : World} {a : Option Addr} {len cap : Nat} {zs : List Int} (h : IsRow k w a len cap zs) : a = none → cap = 0 := by
  rcases h with ⟨rfl, rfl, rfl, rfl⟩ | ⟨x, rfl, _⟩
  · exact fun _ => rfl
  · intro h; simp at h

end Walk

end Go.Proofs.Ytmfmdicdbjghkaa
