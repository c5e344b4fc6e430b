/-
  The walk of girolaw1.CashCuts: it answers true whatever the arguments, and writes nothing that was there.
-/
import Derived.Test.YthkmjlbmefpaiaaKnown
import Derived.Deep.QuietTactic
import Derived.BigQuiet
namespace Go.Proofs.Ythkmjlbmefpaiaa
open Go.RowKit
set_option linter.unusedVariables false
namespace Walk

theorem less_as (n c s : Int) (ok : Bool) (n1 : n ≤ 9223372036854775807) (hs : Hid (worthV n 1 c = s)) (hb : Hid (worthB n 1 c = ok)) (w : World) :
    Calls Try.prog 11 #[.int .i64 n, .int .i64 c] w fun e w' => e = .returned (.tuple #[.int .i64 s, .bool ok]) ∧ ∃ n, w' = w.drewN n := by
  have hs := hs.out; have hb := hb.out
  subst hs; subst hb; exact less_any n c n1 w

/-- What Less answers where it may. -/
theorem less_val (n c : Int) (n0 : 0 ≤ n) (n1 : n ≤ 9223372036854775807) (c0 : 0 ≤ c) (c1 : c ≤ 10000) :
    worthV n 1 c = n * (10000 - c) / 10000 ∧ worthB n 1 c = true ∧ 0 ≤ n * (10000 - c) / 10000 ∧ n * (10000 - c) / 10000 ≤ n := by
  have h0 : 0 ≤ n * (10000 - c) := Int.mul_nonneg n0 (by omega)
  have h1 : n * (10000 - c) ≤ n * 10000 := Int.mul_le_mul_of_nonneg_left (by omega) n0
  rw [worthV_yes n0 (by decide) c0 c1, worthB_yes n0 (by decide) c0 c1, Int.mul_one]
  generalize n * (10000 - c) = x at *
  exact ⟨heldV_yes (by omega) (by omega), heldB_yes (by omega) (by omega), by omega, by omega⟩

set_option maxHeartbeats 1000000 in
theorem cuts_out (n more cut : Int) (h : n < 0 ∨ more < 0 ∨ 2305843009213693952 < more ∨ 2305843009213693952 < n ∨ cut < 0 ∨ 10000 < cut) (w : World) :
    Calls Try.prog 5 #[.int .i64 n, .int .i64 more, .int .i64 cut] w fun e w' => e = .returned (.bool true) ∧ Below w.heap.size w w' := by
  by_cases h1 : n < 0
  · clear h
    go_enter Try.func5, Try.ntmps5
    go_wp2
    go_ret
    exact ⟨rfl, Below.refl _ _⟩
  by_cases h2 : more < 0
  · clear h
    go_enter Try.func5, Try.ntmps5
    go_wp2
    go_ret
    exact ⟨rfl, Below.refl _ _⟩
  by_cases h3 : 2305843009213693952 < more
  · clear h
    go_enter Try.func5, Try.ntmps5
    go_wp2
    go_ret
    exact ⟨rfl, Below.refl _ _⟩
  by_cases h4 : 2305843009213693952 < n
  · clear h
    go_enter Try.func5, Try.ntmps5
    go_wp2
    go_ret
    exact ⟨rfl, Below.refl _ _⟩
  by_cases h5 : cut < 0
  · clear h
    go_enter Try.func5, Try.ntmps5
    go_wp2
    go_ret
    exact ⟨rfl, Below.refl _ _⟩
  · have h6 : 10000 < cut := by omega
    clear h
    go_enter Try.func5, Try.ntmps5
    go_wp2
    go_ret
    exact ⟨rfl, Below.refl _ _⟩

set_option maxHeartbeats 2000000 in
theorem cuts_in (n more cut a b : Int) (n0 : 0 ≤ n) (n1 : n ≤ 2305843009213693952) (m0 : 0 ≤ more) (m1 : more ≤ 2305843009213693952) (c0 : 0 ≤ cut) (c1 : cut ≤ 10000)
    (A : Hid (worthV n 1 cut = a)) (A1 : Hid (worthB n 1 cut = true)) (B : Hid (worthV (n + more) 1 cut = b)) (B1 : Hid (worthB (n + more) 1 cut = true))
    (C : Hid (worthV n 1 0 = n)) (C1 : Hid (worthB n 1 0 = true)) (D : Hid (worthV n 1 10000 = 0)) (D1 : Hid (worthB n 1 10000 = true))
    (a0 : 0 ≤ a) (a1 : a ≤ n) (ab : a ≤ b) (w : World) :
    Calls Try.prog 5 #[.int .i64 n, .int .i64 more, .int .i64 cut] w fun e w' => e = .returned (.bool true) ∧ Below w.heap.size w w' := by
  go_enter Try.func5, Try.ntmps5
  go_wp2_with fail
  refine (less_as n cut a true (by omega) A A1 _).mono ?_
  rintro e w' ⟨rfl, n1, rfl⟩
  go_wp2_with fail
  refine (less_as (n + more) cut b true (by omega) B B1 _).mono ?_
  rintro e w' ⟨rfl, n2, rfl⟩
  go_wp2_with fail
  refine (less_as n 0 n true (by omega) C C1 _).mono ?_
  rintro e w' ⟨rfl, n3, rfl⟩
  go_wp2_with fail
  refine (less_as n 10000 0 true (by omega) D D1 _).mono ?_
  rintro e w' ⟨rfl, n4, rfl⟩
  go_wp2_with (go_at_call 15; refine (known_any _).mono ?_; rintro e w' ⟨rfl, bel⟩)
  go_ret
  refine ⟨rfl, Below.trans ?_ (bel.mono (by simp <;> omega))⟩
  repeat (first | exact Below.refl _ _ | apply below_drewN | refine Below.alloc ?_ (by simp <;> omega) _)

theorem cashCuts (a0 a1 a2 : Int) (w0 : (Lit.int .i64 a0).wf = true) (w1 : (Lit.int .i64 a1).wf = true) (w2 : (Lit.int .i64 a2).wf = true) (w : World) :
    Calls Try.prog 5 #[.int .i64 a0, .int .i64 a1, .int .i64 a2] w fun e w' => e = .returned (.bool true) ∧ Below w.heap.size w w' := by
  by_cases h : a0 < 0 ∨ a1 < 0 ∨ 2305843009213693952 < a1 ∨ 2305843009213693952 < a0 ∨ a2 < 0 ∨ 10000 < a2
  · exact cuts_out a0 a1 a2 h w
  · obtain ⟨A, A1, A2, A3⟩ := less_val a0 a2 (by omega) (by omega) (by omega) (by omega)
    obtain ⟨B, B1, B2, B3⟩ := less_val (a0 + a1) a2 (by omega) (by omega) (by omega) (by omega)
    obtain ⟨C, C1, _, _⟩ := less_val a0 0 (by omega) (by omega) (by omega) (by omega)
    obtain ⟨D, D1, _, _⟩ := less_val a0 10000 (by omega) (by omega) (by omega) (by omega)
    have hm : a0 * (10000 - a2) ≤ (a0 + a1) * (10000 - a2) := Int.mul_le_mul_of_nonneg_right (by omega) (by omega)
    exact cuts_in a0 a1 a2 _ _ (by omega) (by omega) (by omega) (by omega) (by omega) (by omega) A A1 B B1 (C.trans (by omega)) C1 (D.trans (by omega)) D1 A2 A3 (by omega) w

end Walk
end Go.Proofs.Ythkmjlbmefpaiaa
