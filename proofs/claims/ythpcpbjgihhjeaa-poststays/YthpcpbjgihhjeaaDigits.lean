/-
  The contracts of giroref1's digits, carried and times over this seat's program.
-/
import Derived.Test.YthpcpbjgihhjeaaBlk
import Derived.RegionTactic
import Derived.BigRegion
namespace Go.Proofs.Ythpcpbjgihhjeaa
open Go.RowKit
set_option linter.unusedVariables false

/-- What a round of carried does to the digits. -/
theorem carry_step (ys zs : List Int) (k : Nat) (y0 y1 M : Int) (hk : k < 8) (hl : ys.length = 9) (h0 : ys.getD k 0 = y0) (h1 : ys.getD (k + 1) 0 = y1) (hv : val ys = val zs)
    (hlo : ∀ j, j < k → 0 ≤ ys.getD j 0 ∧ ys.getD j 0 < 65536) (hhi : ∀ j, k < j → 0 ≤ ys.getD j 0 ∧ ys.getD j 0 ≤ M) (k0 : 0 ≤ y0) (k1 : y0 ≤ 2 * M) (y10 : 0 ≤ y1) (y11 : y1 ≤ M) (hM : M ≤ 1152921504606846976) :
    ((ys.set (k + 1) (y1 + y0 / 65536)).set k (y0 % 65536)).length = 9 ∧ val ((ys.set (k + 1) (y1 + y0 / 65536)).set k (y0 % 65536)) = val zs ∧
    (∀ j, j < k + 1 → 0 ≤ ((ys.set (k + 1) (y1 + y0 / 65536)).set k (y0 % 65536)).getD j 0 ∧ ((ys.set (k + 1) (y1 + y0 / 65536)).set k (y0 % 65536)).getD j 0 < 65536) ∧
    (∀ j, k + 1 < j → 0 ≤ ((ys.set (k + 1) (y1 + y0 / 65536)).set k (y0 % 65536)).getD j 0 ∧ ((ys.set (k + 1) (y1 + y0 / 65536)).set k (y0 % 65536)).getD j 0 ≤ M) ∧
    0 ≤ ((ys.set (k + 1) (y1 + y0 / 65536)).set k (y0 % 65536)).getD (k + 1) 0 ∧ ((ys.set (k + 1) (y1 + y0 / 65536)).set k (y0 % 65536)).getD (k + 1) 0 ≤ 2 * M := by
  refine ⟨by simp [hl], ?_, ?_, ?_, ?_⟩
  · have h := val_carry ys k (by omega)
    rw [h0, h1] at h
    rw [h, hv]
  · intro j hj
    by_cases e : j = k
    · subst e; rw [getD_set_self _ _ _ (by simp; omega)]; omega
    · rw [getD_set_ne _ _ _ _ (by omega), getD_set_ne _ _ _ _ (by omega)]; exact hlo j (by omega)
  · intro j hj
    rw [getD_set_ne _ _ _ _ (by omega), getD_set_ne _ _ _ _ (by omega)]; exact hhi j (by omega)
  · rw [getD_set_ne _ _ _ _ (by omega), getD_set_self _ _ _ (by omega)]; omega

theorem val_mul (ys zs : List Int) (n : Int) (hl : ys.length = zs.length) (h : ∀ j, j < zs.length → ys.getD j 0 = zs.getD j 0 * n) : val ys = val zs * n := by
  induction zs generalizing ys with
  | nil => simp at hl; subst hl; simp [val]
  | cons z zs ih =>
    cases ys with
    | nil => simp at hl
    | cons y ys =>
      have h0 := h 0 (by simp)
      simp at h0
      have h1 := ih ys (by simpa using hl) (fun j hj => by simpa using h (j + 1) (by simpa using hj))
      simp only [val]
      rw [h1, h0, Int.add_mul, Int.mul_assoc]

end Go.Proofs.Ythpcpbjgihhjeaa
