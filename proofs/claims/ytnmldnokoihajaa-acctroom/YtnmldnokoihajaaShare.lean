/-
  The contracts of giro/cash's share, Worth and Less over this seat's program.
-/
import Derived.Test.YtnmldnokoihajaaBits
namespace Go.Proofs.Ytnmldnokoihajaa
open Go.RowKit
set_option linter.unusedVariables false

/-- What an int64 holds of a number: the number, or 0. -/
def heldV (s : Int) : Int := if -9223372036854775808 ≤ s ∧ s ≤ 9223372036854775807 then s else 0
/-- Does an int64 hold it? -/
def heldB (s : Int) : Bool := decide (-9223372036854775808 ≤ s ∧ s ≤ 9223372036854775807)

theorem heldV_yes {s : Int} (h0 : -9223372036854775808 ≤ s) (h1 : s ≤ 9223372036854775807) : heldV s = s := by unfold heldV; rw [if_pos ⟨h0, h1⟩]
theorem heldB_yes {s : Int} (h0 : -9223372036854775808 ≤ s) (h1 : s ≤ 9223372036854775807) : heldB s = true := by unfold heldB; exact decide_eq_true ⟨h0, h1⟩
theorem heldV_no {s : Int} (h : ¬ (-9223372036854775808 ≤ s ∧ s ≤ 9223372036854775807)) : heldV s = 0 := by unfold heldV; rw [if_neg h]
theorem heldB_no {s : Int} (h : ¬ (-9223372036854775808 ≤ s ∧ s ≤ 9223372036854775807)) : heldB s = false := by unfold heldB; exact decide_eq_false h
theorem heldV_wf (s : Int) : -9223372036854775808 ≤ heldV s ∧ heldV s ≤ 9223372036854775807 := by unfold heldV; split <;> omega

/-- (n times rate) by 10000, where n is q times 10000 and r more. -/
theorem share_sum (n q r rate : Int) (h : n = q * 10000 + r) : n * rate / 10000 = q * rate + r * rate / 10000 := by
  subst h
  have e : (q * 10000 + r) * rate = r * rate + q * rate * 10000 := by
    rw [Int.add_mul, Int.mul_right_comm]; omega
  rw [e, Int.add_mul_ediv_right _ _ (by decide)]
  omega


end Go.Proofs.Ytnmldnokoihajaa
