/-
  The contracts of giroref1's Add and Less over this seat's program.
-/
import Derived.Test.YthkmjlbmefpaiaaKnown
namespace Go.Proofs.Ythkmjlbmefpaiaa
open Go.RowKit
set_option linter.unusedVariables false

set_option maxHeartbeats 1000000 in
theorem refAdd_walk (a b : Int) (a0 : -9223372036854775808 ≤ a) (a1 : a ≤ 9223372036854775807) (b0 : -9223372036854775808 ≤ b) (b1 : b ≤ 9223372036854775807) (w : World) :
    Calls Try.prog 10 #[.int .i64 a, .int .i64 b] w fun e w' => e = .returned (.tuple #[.int .i64 (heldV (a + b)), .bool (heldB (a + b))]) ∧ w' = w := by
  by_cases hb : 0 < b
  · by_cases h : 9223372036854775807 - b < a
    · have E : ¬ (-9223372036854775808 ≤ a + b ∧ a + b ≤ 9223372036854775807) := by omega
      rw [heldV_no E, heldB_no E]
      clear E
      go_enter Try.func10, Try.ntmps10
      go_wp2
      go_ret2
      exact ⟨rfl, rfl⟩
    · have V : Hid (a + b = heldV (a + b)) := (heldV_yes (by omega) (by omega)).symm
      have B : Hid (true = heldB (a + b)) := (heldB_yes (by omega) (by omega)).symm
      have h1 : -9223372036854775808 ≤ a + b := by omega
      have h2 : a + b ≤ 9223372036854775807 := by omega
      go_enter Try.func10, Try.ntmps10
      go_wp2
      go_ret2
      exact ⟨ret_ib V.out B.out, rfl⟩
  by_cases hc : b < 0
  · by_cases h : a < -9223372036854775808 - b
    · have E : ¬ (-9223372036854775808 ≤ a + b ∧ a + b ≤ 9223372036854775807) := by omega
      rw [heldV_no E, heldB_no E]
      clear E
      go_enter Try.func10, Try.ntmps10
      go_wp2
      go_ret2
      exact ⟨rfl, rfl⟩
    · have V : Hid (a + b = heldV (a + b)) := (heldV_yes (by omega) (by omega)).symm
      have B : Hid (true = heldB (a + b)) := (heldB_yes (by omega) (by omega)).symm
      have h1 : -9223372036854775808 ≤ a + b := by omega
      have h2 : a + b ≤ 9223372036854775807 := by omega
      go_enter Try.func10, Try.ntmps10
      go_wp2
      go_ret2
      exact ⟨ret_ib V.out B.out, rfl⟩
  · obtain rfl : b = 0 := by omega
    have V : Hid (a = heldV a) := (heldV_yes (by omega) (by omega)).symm
    have B : Hid (true = heldB a) := (heldB_yes (by omega) (by omega)).symm
    go_enter Try.func10, Try.ntmps10
    go_wp2
    go_ret2
    exact ⟨ret_ib V.out B.out, rfl⟩

set_option maxHeartbeats 1000000 in
theorem refLess_no (n c : Int) (h : ¬ (0 ≤ n ∧ 0 ≤ c ∧ c ≤ 10000)) (w : World) :
    Calls Try.prog 12 #[.int .i64 n, .int .i64 c] w fun e w' => e = .returned (.tuple #[.int .i64 0, .bool false]) ∧ w' = w := by
  by_cases h1 : n < 0
  · clear h
    go_enter Try.func12, Try.ntmps12
    go_wp2
    go_ret2
    exact ⟨rfl, rfl⟩
  by_cases h3 : c < 0
  · clear h
    go_enter Try.func12, Try.ntmps12
    go_wp2
    go_ret2
    exact ⟨rfl, rfl⟩
  · have h4 : 10000 < c := by omega
    clear h
    go_enter Try.func12, Try.ntmps12
    go_wp2
    go_ret2
    exact ⟨rfl, rfl⟩

set_option maxHeartbeats 1000000 in
theorem refLess_yes (n c x y s : Int) (n0 : 0 ≤ n) (n1 : n ≤ 9223372036854775807) (c0 : 0 ≤ c) (c1 : c ≤ 10000)
    (hx : n / 10000 * (10000 - c) = x) (x0 : 0 ≤ x) (x1 : x ≤ 9223372036854775807) (hy : n % 10000 * (10000 - c) = y) (y0 : 0 ≤ y) (y1 : y < 100000000)
    (hs : Hid (x + y / 10000 = s)) (s1 : x + y / 10000 ≤ 9223372036854775807) (w : World) :
    Calls Try.prog 12 #[.int .i64 n, .int .i64 c] w fun e w' => e = .returned (.tuple #[.int .i64 s, .bool true]) ∧ w' = w := by
  go_enter Try.func12, Try.ntmps12
  go_wp2
  go_ret2
  exact ⟨ret_ib hs.out rfl, rfl⟩

theorem refLess_any (n c : Int) (n1 : n ≤ 9223372036854775807) (w : World) :
    Calls Try.prog 12 #[.int .i64 n, .int .i64 c] w fun e w' => e = .returned (.tuple #[.int .i64 (worthV n 1 c), .bool (worthB n 1 c)]) ∧ w' = w := by
  by_cases h : 0 ≤ n ∧ 0 ≤ c ∧ c ≤ 10000
  · obtain ⟨n0, c0, c1⟩ := h
    have h0 : 0 ≤ n * (10000 - c) := Int.mul_nonneg n0 (by omega)
    have h1 : n * (10000 - c) ≤ n * 10000 := Int.mul_le_mul_of_nonneg_left (by omega) n0
    have hs := share_sum n (n / 10000) (n % 10000) (10000 - c) (by omega)
    have x0 : 0 ≤ n / 10000 * (10000 - c) := Int.mul_nonneg (by omega) (by omega)
    have y0 : 0 ≤ n % 10000 * (10000 - c) := Int.mul_nonneg (by omega) (by omega)
    have y1 : n % 10000 * (10000 - c) ≤ 9999 * 10000 := Int.mul_le_mul (by omega) (by omega) (by omega) (by decide)
    rw [worthV_yes n0 (by decide) c0 c1, worthB_yes n0 (by decide) c0 c1, Int.mul_one, heldV_yes (by omega) (by omega), heldB_yes (by omega) (by omega)]
    exact refLess_yes n c _ _ _ n0 n1 c0 c1 rfl x0 (by omega) rfl y0 (by omega) hs.symm (by omega) w
  · have h' : ¬ (0 ≤ n ∧ (0 : Int) ≤ 1 ∧ 0 ≤ c ∧ c ≤ 10000) := by omega
    rw [worthV_no h', worthB_no h']
    exact refLess_no n c h w

end Go.Proofs.Ythkmjlbmefpaiaa
