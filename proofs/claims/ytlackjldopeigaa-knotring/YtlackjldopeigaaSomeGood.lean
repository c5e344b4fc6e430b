/-
  The books of three accounts that the laws make (some) are such.
-/
import Derived.Test.YtlackjldopeigaaLimSome
import Derived.Test.YtlackjldopeigaaLimTwo
namespace Go.Proofs.Ytlackjldopeigaa
open Go.RowKit
set_option linter.unusedVariables false
set_option linter.unusedSimpArgs false

theorem and63_rng (x : Int) : 0 ≤ bits .and .i64 x 63 ∧ bits .and .i64 x 63 ≤ 63 := by
  show 0 ≤ IntKind.i64.wrap ((BitVec.ofInt 64 x &&& BitVec.ofInt 64 63).toNat : Nat) ∧ IntKind.i64.wrap ((BitVec.ofInt 64 x &&& BitVec.ofInt 64 63).toNat : Nat) ≤ 63
  have h : (BitVec.ofInt 64 x &&& BitVec.ofInt 64 63).toNat ≤ 63 := by
    rw [BitVec.toNat_and]
    exact Nat.le_trans Nat.and_le_right (by decide)
  rw [IntKind.wrap_i64]
  omega
theorem balV_rng (zs : List Int) (i : Nat) : 0 ≤ balV zs i ∧ balV zs i ≤ 63 := by
  unfold balV
  split
  · exact and63_rng _
  · omega
theorem good_some (zs : List Int) (z1 z2 z4 : Bool) : Good (someK zs z1 z2 z4) := by
  have hb : ∀ i, 0 ≤ balV zs i ∧ balV zs i ≤ 63 := fun i => balV_rng zs i
  have h0 := hb 0
  have h1 := hb 1
  have h2 := hb 2
  have e3 : (someK zs z1 z2 z4).A.length = 3 := rfl
  refine ⟨by rw [e3]; omega, by rw [e3]; omega, fun i hi => ?_, rfl, fun i hi => ?_, fun i k hi hk => ?_, rfl, fun i hi => ?_, rfl, fun i hi => ?_, fun i k hi hk => ?_, fun i k hi hk => ?_⟩
  · rw [e3] at hi
    unfold acctAt
    rw [acctB_yes]
    rcases (by omega : i = 0 ∨ i = 1 ∨ i = 2) with rfl | rfl | rfl
    · simp only [someK, someA, List.getD_cons_zero, List.getD_cons_succ]; cases z1 <;> simp <;> omega
    · simp only [someK, someA, List.getD_cons_zero, List.getD_cons_succ]; cases z1 <;> simp <;> omega
    · simp only [someK, someA, List.getD_cons_zero, List.getD_cons_succ]; cases z1 <;> cases z4 <;> simp <;> omega
  · rw [e3] at hi
    rcases (by omega : i = 0 ∨ i = 1 ∨ i = 2) with rfl | rfl | rfl <;> rfl
  · rw [e3] at hi hk
    rcases (by omega : i = 0 ∨ i = 1 ∨ i = 2) with rfl | rfl | rfl <;> rcases (by omega : k = 0 ∨ k = 1 ∨ k = 2) with rfl | rfl | rfl <;> cases z2 <;> (change limB (at2 (someB _) _ _) = true; decide +kernel)
  · rw [e3] at hi
    rcases (by omega : i = 0 ∨ i = 1 ∨ i = 2) with rfl | rfl | rfl <;> cases z2 <;> cases z4 <;> (change limB ((someM _ _).getD _ _) = true; decide +kernel)
  · rw [e3] at hi
    rcases (by omega : i = 0 ∨ i = 1 ∨ i = 2) with rfl | rfl | rfl <;> rfl
  · rw [e3] at hi hk
    rcases (by omega : i = 0 ∨ i = 1 ∨ i = 2) with rfl | rfl | rfl <;> rcases (by omega : k = 0 ∨ k = 1 ∨ k = 2) with rfl | rfl | rfl <;> cases z4 <;> (change posB (at2 (someP _) _ _) = true; decide +kernel)
  · rw [e3] at hi hk
    rcases (by omega : i = 0 ∨ i = 1 ∨ i = 2) with rfl | rfl | rfl <;> rcases (by omega : k = 0 ∨ k = 1 ∨ k = 2) with rfl | rfl | rfl <;> cases z4 <;> (change at2 (someP _) _ _ = -at2 (someP _) _ _; decide +kernel)

end Go.Proofs.Ytlackjldopeigaa
