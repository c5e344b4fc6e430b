/-
  The walk of girolaw1.CashBig: it answers true whatever the argument, and writes nothing that was there.
-/
import Derived.Test.YthkmjlbmefpaiaaKnown
import Derived.Deep.QuietTactic
import Derived.BigQuiet
namespace Go.Proofs.Ythkmjlbmefpaiaa
open Go.RowKit
set_option linter.unusedVariables false
namespace Walk

theorem worth_lit (p m c s : Int) (ok : Bool) (p1 : p ≤ 9223372036854775807) (m1 : m ≤ 9223372036854775807) (hs : worthV p m c = s) (hb : worthB p m c = ok) (w : World) :
    Calls Try.prog 13 #[.int .i64 p, .int .i64 m, .int .i64 c] w fun e w' => e = .returned (.tuple #[.int .i64 s, .bool ok]) ∧ ∃ n, w' = w.drewN n := by
  subst hs; subst hb; exact worth_any p m c p1 m1 w

set_option maxHeartbeats 1000000 in
theorem big_out (way : Int) (h : way < 0 ∨ 7 ≤ way) (w : World) :
    Calls Try.prog 8 #[.int .i64 way] w fun e w' => e = .returned (.bool true) ∧ Below w.heap.size w w' := by
  rcases h with h | h
  · go_enter Try.func8, Try.ntmps8
    go_wp2
    go_ret
    exact ⟨rfl, by repeat (first | exact Below.refl _ _ | apply below_drewN | refine Below.alloc ?_ (by simp <;> omega) _)⟩
  · go_enter Try.func8, Try.ntmps8
    go_wp2
    go_ret
    exact ⟨rfl, by repeat (first | exact Below.refl _ _ | apply below_drewN | refine Below.alloc ?_ (by simp <;> omega) _)⟩

set_option maxHeartbeats 1000000 in
theorem big_0 (w : World) :
    Calls Try.prog 8 #[.int .i64 0] w fun e w' => e = .returned (.bool true) ∧ Below w.heap.size w w' := by
  go_enter Try.func8, Try.ntmps8
  go_wp2
  go_quiet ((go_at_call 13; exact Calls.quiet_of (worth_lit 4611686018427387905 2 5000 4611686018427387905 true (by decide) (by decide) (by decide) (by decide) _)))
  go_wp2_with (go_at_call 15; refine (known_any _).mono ?_; rintro e w' ⟨rfl, bel⟩)
  go_ret
  refine ⟨rfl, Below.trans ?_ (bel.mono (by simp <;> omega))⟩
  repeat (first | exact Below.refl _ _ | apply below_drewN | refine Below.alloc ?_ (by simp <;> omega) _)

set_option maxHeartbeats 1000000 in
theorem big_1 (w : World) :
    Calls Try.prog 8 #[.int .i64 1] w fun e w' => e = .returned (.bool true) ∧ Below w.heap.size w w' := by
  go_enter Try.func8, Try.ntmps8
  go_wp2
  go_quiet ((go_at_call 13; exact Calls.quiet_of (worth_lit 4611686018427387904 4 7500 4611686018427387904 true (by decide) (by decide) (by decide) (by decide) _)))
  go_wp2_with (go_at_call 15; refine (known_any _).mono ?_; rintro e w' ⟨rfl, bel⟩)
  go_ret
  refine ⟨rfl, Below.trans ?_ (bel.mono (by simp <;> omega))⟩
  repeat (first | exact Below.refl _ _ | apply below_drewN | refine Below.alloc ?_ (by simp <;> omega) _)

set_option maxHeartbeats 1000000 in
theorem big_2 (w : World) :
    Calls Try.prog 8 #[.int .i64 2] w fun e w' => e = .returned (.bool true) ∧ Below w.heap.size w w' := by
  go_enter Try.func8, Try.ntmps8
  go_wp2
  go_quiet ((go_at_call 13; exact Calls.quiet_of (worth_lit 9223372036854775807 10000 9999 9223372036854775807 true (by decide) (by decide) (by decide) (by decide) _)))
  go_wp2_with (go_at_call 15; refine (known_any _).mono ?_; rintro e w' ⟨rfl, bel⟩)
  go_ret
  refine ⟨rfl, Below.trans ?_ (bel.mono (by simp <;> omega))⟩
  repeat (first | exact Below.refl _ _ | apply below_drewN | refine Below.alloc ?_ (by simp <;> omega) _)

set_option maxHeartbeats 1000000 in
theorem big_3 (w : World) :
    Calls Try.prog 8 #[.int .i64 3] w fun e w' => e = .returned (.bool true) ∧ Below w.heap.size w w' := by
  go_enter Try.func8, Try.ntmps8
  go_wp2
  go_quiet ((go_at_call 13; exact Calls.quiet_of (worth_lit 9223372036854775807 10000 9998 0 false (by decide) (by decide) (by decide) (by decide) _)))
  go_wp2_with (go_at_call 15; refine (known_any _).mono ?_; rintro e w' ⟨rfl, bel⟩)
  go_ret
  refine ⟨rfl, Below.trans ?_ (bel.mono (by simp <;> omega))⟩
  repeat (first | exact Below.refl _ _ | apply below_drewN | refine Below.alloc ?_ (by simp <;> omega) _)

set_option maxHeartbeats 1000000 in
theorem big_4 (w : World) :
    Calls Try.prog 8 #[.int .i64 4] w fun e w' => e = .returned (.bool true) ∧ Below w.heap.size w w' := by
  go_enter Try.func8, Try.ntmps8
  go_wp2
  go_quiet ((go_at_call 13; exact Calls.quiet_of (worth_lit 5 (-1) 0 0 false (by decide) (by decide) (by decide) (by decide) _)))
  go_wp2_with (go_at_call 15; refine (known_any _).mono ?_; rintro e w' ⟨rfl, bel⟩)
  go_ret
  refine ⟨rfl, Below.trans ?_ (bel.mono (by simp <;> omega))⟩
  repeat (first | exact Below.refl _ _ | apply below_drewN | refine Below.alloc ?_ (by simp <;> omega) _)

set_option maxHeartbeats 1000000 in
theorem big_5 (w : World) :
    Calls Try.prog 8 #[.int .i64 5] w fun e w' => e = .returned (.bool true) ∧ Below w.heap.size w w' := by
  go_enter Try.func8, Try.ntmps8
  go_wp2
  go_quiet ((go_at_call 13; exact Calls.quiet_of (worth_lit 1099511627776 1099511627776 10000 0 true (by decide) (by decide) (by decide) (by decide) _)))
  go_wp2_with (go_at_call 15; refine (known_any _).mono ?_; rintro e w' ⟨rfl, bel⟩)
  go_ret
  refine ⟨rfl, Below.trans ?_ (bel.mono (by simp <;> omega))⟩
  repeat (first | exact Below.refl _ _ | apply below_drewN | refine Below.alloc ?_ (by simp <;> omega) _)

set_option maxHeartbeats 1000000 in
theorem big_6 (w : World) :
    Calls Try.prog 8 #[.int .i64 6] w fun e w' => e = .returned (.bool true) ∧ Below w.heap.size w w' := by
  go_enter Try.func8, Try.ntmps8
  go_wp2
  go_quiet ((go_at_call 13; exact Calls.quiet_of (worth_lit 1099511627776 68719476736 9999 7555786372591432341 true (by decide) (by decide) (by decide) (by decide) _)))
  go_wp2_with (go_at_call 15; refine (known_any _).mono ?_; rintro e w' ⟨rfl, bel⟩)
  go_ret
  refine ⟨rfl, Below.trans ?_ (bel.mono (by simp <;> omega))⟩
  repeat (first | exact Below.refl _ _ | apply below_drewN | refine Below.alloc ?_ (by simp <;> omega) _)

theorem cashBig (a0 : Int) (w0 : (Lit.int .i64 a0).wf = true) (w : World) :
    Calls Try.prog 8 #[.int .i64 a0] w fun e w' => e = .returned (.bool true) ∧ Below w.heap.size w w' := by
  by_cases h : a0 < 0 ∨ 7 ≤ a0
  · exact big_out a0 h w
  · have h' : a0 = 0 ∨ a0 = 1 ∨ a0 = 2 ∨ a0 = 3 ∨ a0 = 4 ∨ a0 = 5 ∨ a0 = 6 := by omega
    rcases h' with rfl | rfl | rfl | rfl | rfl | rfl | rfl
    · exact big_0 w
    · exact big_1 w
    · exact big_2 w
    · exact big_3 w
    · exact big_4 w
    · exact big_5 w
    · exact big_6 w

end Walk
end Go.Proofs.Ythkmjlbmefpaiaa
