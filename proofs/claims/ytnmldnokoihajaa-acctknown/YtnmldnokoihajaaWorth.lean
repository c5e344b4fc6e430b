/-
  The contracts of giro/cash's Worth and Less over this seat's program.
-/
import Derived.Test.YtnmldnokoihajaaShare
namespace Go.Proofs.Ytnmldnokoihajaa
open Go.RowKit
set_option linter.unusedVariables false

/-- May that be asked of Worth? -/
def askedB (p m c : Int) : Bool := decide (0 ≤ p ∧ 0 ≤ m ∧ 0 ≤ c ∧ c ≤ 10000)
def worthV (p m c : Int) : Int := if askedB p m c = true then heldV (p * m * (10000 - c) / 10000) else 0
def worthB (p m c : Int) : Bool := askedB p m c && heldB (p * m * (10000 - c) / 10000)

theorem asked_yes {p m c : Int} (h1 : 0 ≤ p) (h2 : 0 ≤ m) (h3 : 0 ≤ c) (h4 : c ≤ 10000) : askedB p m c = true := decide_eq_true ⟨h1, h2, h3, h4⟩
theorem asked_no {p m c : Int} (h : ¬ (0 ≤ p ∧ 0 ≤ m ∧ 0 ≤ c ∧ c ≤ 10000)) : askedB p m c = false := decide_eq_false h
theorem worthV_yes {p m c : Int} (h1 : 0 ≤ p) (h2 : 0 ≤ m) (h3 : 0 ≤ c) (h4 : c ≤ 10000) : worthV p m c = heldV (p * m * (10000 - c) / 10000) := by unfold worthV; rw [if_pos (asked_yes h1 h2 h3 h4)]
theorem worthB_yes {p m c : Int} (h1 : 0 ≤ p) (h2 : 0 ≤ m) (h3 : 0 ≤ c) (h4 : c ≤ 10000) : worthB p m c = heldB (p * m * (10000 - c) / 10000) := by unfold worthB; rw [asked_yes h1 h2 h3 h4]; rfl
theorem worthV_no {p m c : Int} (h : ¬ (0 ≤ p ∧ 0 ≤ m ∧ 0 ≤ c ∧ c ≤ 10000)) : worthV p m c = 0 := by unfold worthV; rw [asked_no h]; rfl
theorem worthB_no {p m c : Int} (h : ¬ (0 ≤ p ∧ 0 ≤ m ∧ 0 ≤ c ∧ c ≤ 10000)) : worthB p m c = false := by unfold worthB; rw [asked_no h]; rfl


end Go.Proofs.Ytnmldnokoihajaa
