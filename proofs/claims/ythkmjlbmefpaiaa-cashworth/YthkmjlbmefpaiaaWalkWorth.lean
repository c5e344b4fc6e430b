/-
  The walk of girolaw1.CashWorth: it answers true whatever the arguments, and writes nothing that was there.
-/
import Derived.Test.YthkmjlbmefpaiaaRef
namespace Go.Proofs.Ythkmjlbmefpaiaa
open Go.RowKit
set_option linter.unusedVariables false
namespace Walk

theorem worth_as (p m c s : Int) (ok : Bool) (p1 : p ≤ 9223372036854775807) (m1 : m ≤ 9223372036854775807) (hs : Hid (worthV p m c = s)) (hb : Hid (worthB p m c = ok)) (w : World) :
    Calls Try.prog 13 #[.int .i64 p, .int .i64 m, .int .i64 c] w fun e w' => e = .returned (.tuple #[.int .i64 s, .bool ok]) ∧ ∃ n, w' = w.drewN n := by
  have hs := hs.out; have hb := hb.out
  subst hs; subst hb; exact worth_any p m c p1 m1 w
theorem refLess_as (n c s : Int) (ok : Bool) (n1 : n ≤ 9223372036854775807) (hs : Hid (worthV n 1 c = s)) (hb : Hid (worthB n 1 c = ok)) (w : World) :
    Calls Try.prog 12 #[.int .i64 n, .int .i64 c] w fun e w' => e = .returned (.tuple #[.int .i64 s, .bool ok]) ∧ w' = w := by
  have hs := hs.out; have hb := hb.out
  subst hs; subst hb; exact refLess_any n c n1 w

set_option maxHeartbeats 1000000 in
theorem worth_out (p m cut : Int) (h : p < 0 ∨ 2147483648 < p ∨ m < 0 ∨ 2147483648 < m ∨ cut < 0 ∨ 10000 < cut) (w : World) :
    Calls Try.prog 6 #[.int .i64 p, .int .i64 m, .int .i64 cut] w fun e w' => e = .returned (.bool true) ∧ Below w.heap.size w w' := by
  by_cases h1 : p < 0
  · clear h
    go_enter Try.func6, Try.ntmps6
    go_wp2
    go_ret
    exact ⟨rfl, Below.refl _ _⟩
  by_cases h2 : 2147483648 < p
  · clear h
    go_enter Try.func6, Try.ntmps6
    go_wp2
    go_ret
    exact ⟨rfl, Below.refl _ _⟩
  by_cases h3 : m < 0
  · clear h
    go_enter Try.func6, Try.ntmps6
    go_wp2
    go_ret
    exact ⟨rfl, Below.refl _ _⟩
  by_cases h4 : 2147483648 < m
  · clear h
    go_enter Try.func6, Try.ntmps6
    go_wp2
    go_ret
    exact ⟨rfl, Below.refl _ _⟩
  by_cases h5 : cut < 0
  · clear h
    go_enter Try.func6, Try.ntmps6
    go_wp2
    go_ret
    exact ⟨rfl, Below.refl _ _⟩
  · have h6 : 10000 < cut := by omega
    clear h
    go_enter Try.func6, Try.ntmps6
    go_wp2
    go_ret
    exact ⟨rfl, Below.refl _ _⟩

set_option maxHeartbeats 2000000 in
theorem worth_in (p m cut x s : Int) (p0 : 0 ≤ p) (p1 : p ≤ 2147483648) (m0 : 0 ≤ m) (m1 : m ≤ 2147483648) (c0 : 0 ≤ cut) (c1 : cut ≤ 10000)
    (hx : p * m = x) (x0 : 0 ≤ x) (x1 : x ≤ 4611686018427387904)
    (A : Hid (worthV p m cut = s)) (A1 : Hid (worthB p m cut = true)) (B : Hid (worthV x 1 cut = s)) (B1 : Hid (worthB x 1 cut = true))
    (C : Hid (worthV m p cut = s)) (C1 : Hid (worthB m p cut = true)) (w : World) :
    Calls Try.prog 6 #[.int .i64 p, .int .i64 m, .int .i64 cut] w fun e w' => e = .returned (.bool true) ∧ Below w.heap.size w w' := by
  go_enter Try.func6, Try.ntmps6
  go_wp2_with fail
  refine (worth_as p m cut s true (by omega) (by omega) A A1 _).mono ?_
  rintro e w' ⟨rfl, n1, rfl⟩
  go_wp2_with fail
  refine (refLess_as x cut s true (by omega) B B1 _).mono ?_
  rintro e w' ⟨rfl, rfl⟩
  go_wp2_with fail
  refine (worth_as m p cut s true (by omega) (by omega) C C1 _).mono ?_
  rintro e w' ⟨rfl, n2, rfl⟩
  go_wp2_with (go_at_call 15; refine (known_any _).mono ?_; rintro e w' ⟨rfl, bel⟩)
  go_ret
  refine ⟨rfl, Below.trans ?_ (bel.mono (by simp <;> omega))⟩
  repeat (first | exact Below.refl _ _ | apply below_drewN | refine Below.alloc ?_ (by simp <;> omega) _)

theorem cashWorth (a0 a1 a2 : Int) (w0 : (Lit.int .i64 a0).wf = true) (w1 : (Lit.int .i64 a1).wf = true) (w2 : (Lit.int .i64 a2).wf = true) (w : World) :
    Calls Try.prog 6 #[.int .i64 a0, .int .i64 a1, .int .i64 a2] w fun e w' => e = .returned (.bool true) ∧ Below w.heap.size w w' := by
  by_cases h : a0 < 0 ∨ 2147483648 < a0 ∨ a1 < 0 ∨ 2147483648 < a1 ∨ a2 < 0 ∨ 10000 < a2
  · exact worth_out a0 a1 a2 h w
  · have x0 : 0 ≤ a0 * a1 := Int.mul_nonneg (by omega) (by omega)
    have x1 : a0 * a1 ≤ 2147483648 * 2147483648 := Int.mul_le_mul (by omega) (by omega) (by omega) (by decide)
    have h0 : 0 ≤ a0 * a1 * (10000 - a2) := Int.mul_nonneg x0 (by omega)
    have h1 : a0 * a1 * (10000 - a2) ≤ a0 * a1 * 10000 := Int.mul_le_mul_of_nonneg_left (by omega) x0
    have V := heldV_yes (s := a0 * a1 * (10000 - a2) / 10000) (by omega) (by omega)
    have B := heldB_yes (s := a0 * a1 * (10000 - a2) / 10000) (by omega) (by omega)
    refine worth_in a0 a1 a2 (a0 * a1) (a0 * a1 * (10000 - a2) / 10000) (by omega) (by omega) (by omega) (by omega) (by omega) (by omega) rfl x0 (by omega) ?_ ?_ ?_ ?_ ?_ ?_ w
    · exact (worthV_yes (by omega) (by omega) (by omega) (by omega)).trans V
    · exact (worthB_yes (by omega) (by omega) (by omega) (by omega)).trans B
    · exact (worthV_yes x0 (by omega) (by omega) (by omega)).trans (by rw [Int.mul_one]; exact V)
    · exact (worthB_yes x0 (by omega) (by omega) (by omega)).trans (by rw [Int.mul_one]; exact B)
    · exact (worthV_yes (by omega) (by omega) (by omega) (by omega)).trans (by rw [Int.mul_comm a1 a0]; exact V)
    · exact (worthB_yes (by omega) (by omega) (by omega) (by omega)).trans (by rw [Int.mul_comm a1 a0]; exact B)

end Walk
end Go.Proofs.Ythkmjlbmefpaiaa
