/-
  The contracts of giroref1's Add and Less over this seat's program.
-/
import Derived.Test.YtnmldnokoihajaaKnown
namespace Go.Proofs.Ytnmldnokoihajaa
open Go.RowKit
set_option linter.unusedVariables false

set_option maxHeartbeats 1000000 in
theorem refAdd_walk (a b : Int) (a0 : -9223372036854775808 ≤ a) (a1 : a ≤ 9223372036854775807) (b0 : -9223372036854775808 ≤ b) (b1 : b ≤ 9223372036854775807) (w : World) :
    Calls Try.prog 21 #[.int .i64 a, .int .i64 b] w fun e w' => e = .returned (.tuple #[.int .i64 (heldV (a + b)), .bool (heldB (a + b))]) ∧ w' = w := by
  by_cases hb : 0 < b
  · by_cases h : 9223372036854775807 - b < a
    · have E : ¬ (-9223372036854775808 ≤ a + b ∧ a + b ≤ 9223372036854775807) := by omega
      rw [heldV_no E, heldB_no E]
      clear E
      go_enter Try.func21, Try.ntmps21
      go_wp2
      go_ret2
      exact ⟨rfl, rfl⟩
    · have V : Hid (a + b = heldV (a + b)) := (heldV_yes (by omega) (by omega)).symm
      have B : Hid (true = heldB (a + b)) := (heldB_yes (by omega) (by omega)).symm
      have h1 : -9223372036854775808 ≤ a + b := by omega
      have h2 : a + b ≤ 9223372036854775807 := by omega
      go_enter Try.func21, Try.ntmps21
      go_wp2
      go_ret2
      exact ⟨ret_ib V.out B.out, rfl⟩
  by_cases hc : b < 0
  · by_cases h : a < -9223372036854775808 - b
    · have E : ¬ (-9223372036854775808 ≤ a + b ∧ a + b ≤ 9223372036854775807) := by omega
      rw [heldV_no E, heldB_no E]
      clear E
      go_enter Try.func21, Try.ntmps21
      go_wp2
      go_ret2
      exact ⟨rfl, rfl⟩
    · have V : Hid (a + b = heldV (a + b)) := (heldV_yes (by omega) (by omega)).symm
      have B : Hid (true = heldB (a + b)) := (heldB_yes (by omega) (by omega)).symm
      have h1 : -9223372036854775808 ≤ a + b := by omega
      have h2 : a + b ≤ 9223372036854775807 := by omega
      go_enter Try.func21, Try.ntmps21
      go_wp2
      go_ret2
      exact ⟨ret_ib V.out B.out, rfl⟩
  · obtain rfl : b = 0 := by omega
    have V : Hid (a = heldV a) := (heldV_yes (by omega) (by omega)).symm
    have B : Hid (true = heldB a) := (heldB_yes (by omega) (by omega)).symm
    go_enter Try.func21, Try.ntmps21
    go_wp2
    go_ret2
    exact ⟨ret_ib V.out B.out, rfl⟩


end Go.Proofs.Ytnmldnokoihajaa
