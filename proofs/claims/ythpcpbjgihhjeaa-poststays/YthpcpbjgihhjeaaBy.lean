/-
  The contract of giroref1's by over this seat's program: digits by 10000, rounded down, if an int64 holds it.
-/
import Derived.Test.YthpcpbjgihhjeaaDigits
namespace Go.Proofs.Ythpcpbjgihhjeaa
open Go.RowKit
set_option linter.unusedVariables false

theorem drop_getD (l : List Int) (k : Nat) (h : k < l.length) : l.drop k = l.getD k 0 :: l.drop (k + 1) := by
  rw [List.drop_eq_getElem_cons h]
  simp [List.getD_eq_getElem?_getD, h]
theorem drop_set (l : List Int) (k : Nat) (x : Int) (h : k < l.length) : (l.set k x).drop k = x :: l.drop (k + 1) := by
  rw [drop_getD _ k (by simpa using h), getD_set_self _ _ _ h, List.drop_set_of_lt (by omega)]

/-- Nine digits of 65536: which of them are 0, and what the lower four make. -/
theorem nine (ys : List Int) (hl : ys.length = 9) (hd : ∀ j, j < 9 → 0 ≤ ys.getD j 0 ∧ ys.getD j 0 < 65536) :
    (∀ j, 4 ≤ j → j < 9 → ys.getD j 0 ≠ 0 → 9223372036854775807 < val ys) ∧
    ((∀ j, 4 ≤ j → j < 9 → ys.getD j 0 = 0) → val ys = ys.getD 3 0 * 281474976710656 + ys.getD 2 0 * 4294967296 + ys.getD 1 0 * 65536 + ys.getD 0 0) ∧ 0 ≤ val ys := by
  match ys, hl with
  | [y0, y1, y2, y3, y4, y5, y6, y7, y8], _ =>
    have d0 := hd 0 (by omega); have d1 := hd 1 (by omega); have d2 := hd 2 (by omega); have d3 := hd 3 (by omega); have d4 := hd 4 (by omega)
    have d5 := hd 5 (by omega); have d6 := hd 6 (by omega); have d7 := hd 7 (by omega); have d8 := hd 8 (by omega)
    simp at d0 d1 d2 d3 d4 d5 d6 d7 d8
    simp only [val]
    refine ⟨?_, ?_, by omega⟩
    · intro j j0 j1 hj
      have : j = 4 ∨ j = 5 ∨ j = 6 ∨ j = 7 ∨ j = 8 := by omega
      rcases this with rfl | rfl | rfl | rfl | rfl <;> simp at hj <;> omega
    · intro h
      have h4 := h 4 (by omega) (by omega); have h5 := h 5 (by omega) (by omega); have h6 := h 6 (by omega) (by omega); have h7 := h 7 (by omega) (by omega); have h8 := h 8 (by omega) (by omega)
      simp at h4 h5 h6 h7 h8
      simp
      omega

/-- What is behind the first loop of by: the second one, and the answer. -/
def ByEnd (w : World) (B : Nat) (q : Int) (e : Ending) (w' : World) : Prop := e = .returned (.tuple #[.int .i64 (heldV q), .bool (heldB q)]) ∧ Below B w w'

end Go.Proofs.Ythpcpbjgihhjeaa
