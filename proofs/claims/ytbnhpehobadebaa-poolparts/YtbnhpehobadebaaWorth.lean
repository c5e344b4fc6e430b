/-
  The contracts of giro/cash's Worth and Less over this seat's program.
-/
import Derived.Test.YtbnhpehobadebaaShare
namespace Go.Proofs.Ytbnhpehobadebaa
open Go.RowKit
set_option linter.unusedVariables false

/-- May that be asked of Worth? -/
def askedB (p m c : Int) : Bool := decide (0 ≤ p ∧ 0 ≤ m ∧ 0 ≤ c ∧ c ≤ 10000)
def worthV (p m c : Int) : Int := if askedB p m c = true then heldV (p * m * (10000 - c) / 10000) else 0
def worthB (p m c : Int) : Bool := askedB p m c && heldB (p * m * (10000 - c) / 10000)

theorem asked_yes {p m c : Int} (h1 : 0 ≤ p) (h2 : 0 ≤ m) (h3 : 0 ≤ c) (h4 : c ≤ 10000) : askedB p m c = true := decide_eq_true ⟨h1, h2, h3, h4⟩
theorem asked_no {p m c : Int} (h : ¬ (0 ≤ p ∧ 0 ≤ m ∧ 0 ≤ c ∧ c ≤ 10000)) : askedB p m c = false := decide_eq_false h
theorem worthV_yes {p m c : Int} (h1 : 0 ≤ p) (h2 : 0 ≤ m) (h3 : 0 ≤ c) (h4 : c ≤ 10000) : worthV p m c = heldV (p * m * (10000 - c) / 10000) := by unfold worthV; rw [if_pos (asked_yes h1 h2 h3 h4)]
theorem worthB_yes {p m c : Int} (h1 : 0 ≤ p) (h2 : 0 ≤ m) (h3 : 0 ≤ c) (h4 : c ≤ 10000) : worthB p m c = heldB (p * m * (10000 - c) / 10000) := by unfold worthB; rw [asked_yes h1 h2 h3 h4]; rfl
theorem worthV_no {p m c : Int} (h : ¬ (0 ≤ p ∧ 0 ≤ m ∧ 0 ≤ c ∧ c ≤ 10000)) : worthV p m c = 0 := by unfold worthV; rw [asked_no h]; rfl
theorem worthB_no {p m c : Int} (h : ¬ (0 ≤ p ∧ 0 ≤ m ∧ 0 ≤ c ∧ c ≤ 10000)) : worthB p m c = false := by unfold worthB; rw [asked_no h]; rfl

set_option maxHeartbeats 1000000 in
theorem worth_no (p m c : Int) (h : ¬ (0 ≤ p ∧ 0 ≤ m ∧ 0 ≤ c ∧ c ≤ 10000)) (w : World) :
    Calls Try.prog 14 #[.int .i64 p, .int .i64 m, .int .i64 c] w fun e w' => e = .returned (.tuple #[.int .i64 0, .bool false]) ∧ w' = w := by
  by_cases h1 : p < 0
  · clear h
    go_enter Try.func14, Try.ntmps14
    go_wp2
    go_ret2
    exact ⟨rfl, rfl⟩
  by_cases h2 : m < 0
  · clear h
    go_enter Try.func14, Try.ntmps14
    go_wp2
    go_ret2
    exact ⟨rfl, rfl⟩
  by_cases h3 : c < 0
  · clear h
    go_enter Try.func14, Try.ntmps14
    go_wp2
    go_ret2
    exact ⟨rfl, rfl⟩
  · have h4 : 10000 < c := by omega
    clear h
    go_enter Try.func14, Try.ntmps14
    go_wp2
    go_ret2
    exact ⟨rfl, rfl⟩

set_option maxHeartbeats 1000000 in
theorem worth_yes (p m c o l : Int) (h1 : 0 ≤ p) (p1 : p ≤ 9223372036854775807) (h2 : 0 ≤ m) (m1 : m ≤ 9223372036854775807) (h3 : 0 ≤ c) (h4 : c ≤ 10000)
    (M : Hid (p * m = o * 18446744073709551616 + l)) (o0 : 0 ≤ o) (o1 : o < 18446744073709551616) (l0 : 0 ≤ l) (l1 : l < 18446744073709551616) (w : World) :
    Calls Try.prog 14 #[.int .i64 p, .int .i64 m, .int .i64 c] w fun e w' =>
      e = .returned (.tuple #[.int .i64 (heldV ((o * 18446744073709551616 + l) * (10000 - c) / 10000)), .bool (heldB ((o * 18446744073709551616 + l) * (10000 - c) / 10000))]) ∧ ∃ n, w' = w.drewN n := by
  go_enter Try.func14, Try.ntmps14
  go_wp2_with (first
    | (go_at_call 20; refine (mul64_as p m o l M.out l0 l1 h1 (by omega) h2 (by omega) _).mono ?_; rintro e w' ⟨rfl, rfl⟩)
    | (go_at_call 21; refine (share_any o l (10000 - c) o0 o1 l0 l1 (by omega) (by omega) _).mono ?_; rintro e w' ⟨rfl, n, rfl⟩))
  go_ret2
  exact ⟨rfl, _, rfl⟩

/-- Worth. -/
theorem worth_any (p m c : Int) (p1 : p ≤ 9223372036854775807) (m1 : m ≤ 9223372036854775807) (w : World) :
    Calls Try.prog 14 #[.int .i64 p, .int .i64 m, .int .i64 c] w fun e w' => e = .returned (.tuple #[.int .i64 (worthV p m c), .bool (worthB p m c)]) ∧ ∃ n, w' = w.drewN n := by
  by_cases h : 0 ≤ p ∧ 0 ≤ m ∧ 0 ≤ c ∧ c ≤ 10000
  · obtain ⟨h1, h2, h3, h4⟩ := h
    rw [worthV_yes h1 h2 h3 h4, worthB_yes h1 h2 h3 h4]
    have P0 : 0 ≤ p * m := Int.mul_nonneg h1 h2
    have P1 : p * m ≤ 9223372036854775807 * 9223372036854775807 := Int.mul_le_mul p1 m1 h2 (by decide)
    have M : p * m = p * m / 18446744073709551616 * 18446744073709551616 + p * m % 18446744073709551616 := by omega
    have hw := worth_yes p m c (p * m / 18446744073709551616) (p * m % 18446744073709551616) h1 p1 h2 m1 h3 h4 M (by omega) (by omega) (by omega) (by omega) w
    rw [← M] at hw
    exact hw
  · rw [worthV_no h, worthB_no h]
    refine (worth_no p m c h w).mono ?_
    rintro e w' ⟨rfl, rfl⟩
    exact ⟨rfl, 0, rfl⟩


end Go.Proofs.Ytbnhpehobadebaa
