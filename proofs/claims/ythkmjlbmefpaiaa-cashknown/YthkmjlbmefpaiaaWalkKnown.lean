/-
  The walk of girolaw1.CashKnown: it answers true whatever the argument, and writes nothing that was there.
-/
import Derived.Test.YthkmjlbmefpaiaaKnown
namespace Go.Proofs.Ythkmjlbmefpaiaa
open Go.RowKit
set_option linter.unusedVariables false
namespace Walk

theorem sum_lit (a : Option Addr) (len cap : Nat) (zs : List Int) (s : Int) (ok : Bool) (hs : heldV (tot zs) = s) (hb : heldB (tot zs) = ok) (w : World) (h : Has w a len zs) :
    Calls Try.prog 16 #[.slice a len cap] w fun e w' => e = .returned (.tuple #[.int .i64 s, .bool ok]) ∧ w' = w := by
  subst hs; subst hb; exact sum_any a len cap zs w h

set_option maxHeartbeats 1000000 in
theorem known_out (way : Int) (h : way < 0 ∨ 8 ≤ way) (w : World) :
    Calls Try.prog 7 #[.int .i64 way] w fun e w' => e = .returned (.bool true) ∧ Below w.heap.size w w' := by
  rcases h with h | h
  · go_enter Try.func7, Try.ntmps7
    go_wp2
    go_ret
    exact ⟨rfl, by repeat (first | exact Below.refl _ _ | apply below_drewN | refine Below.alloc ?_ (by simp <;> omega) _)⟩
  · go_enter Try.func7, Try.ntmps7
    go_wp2
    go_ret
    exact ⟨rfl, by repeat (first | exact Below.refl _ _ | apply below_drewN | refine Below.alloc ?_ (by simp <;> omega) _)⟩

set_option maxHeartbeats 1000000 in
theorem known_0 (w : World) :
    Calls Try.prog 7 #[.int .i64 0] w fun e w' => e = .returned (.bool true) ∧ Below w.heap.size w w' := by
  go_enter Try.func7, Try.ntmps7
  go_wp2_with (first
    | (go_at_call 16; refine (sum_lit _ 2 2 [9223372036854775807, 1] 0 false (by decide) (by decide) _ (by exact has_new (zs := [9223372036854775807, 1]) (by decide) (by decide) (by intro i hi; go_simp))).mono ?_; rintro e w' ⟨rfl, rfl⟩)
    | (go_at_call 15; refine (known_any _).mono ?_; rintro e w' ⟨rfl, bel⟩))
  go_ret
  refine ⟨rfl, Below.trans ?_ (bel.mono (by simp <;> omega))⟩
  repeat (first | exact Below.refl _ _ | apply below_drewN | refine Below.alloc ?_ (by simp <;> omega) _)

set_option maxHeartbeats 1000000 in
theorem known_1 (w : World) :
    Calls Try.prog 7 #[.int .i64 1] w fun e w' => e = .returned (.bool true) ∧ Below w.heap.size w w' := by
  go_enter Try.func7, Try.ntmps7
  go_wp2_with (first
    | (go_at_call 16; refine (sum_lit _ 2 2 [-9223372036854775808, -1] 0 false (by decide) (by decide) _ (by exact has_new (zs := [-9223372036854775808, -1]) (by decide) (by decide) (by intro i hi; go_simp))).mono ?_; rintro e w' ⟨rfl, rfl⟩)
    | (go_at_call 15; refine (known_any _).mono ?_; rintro e w' ⟨rfl, bel⟩))
  go_ret
  refine ⟨rfl, Below.trans ?_ (bel.mono (by simp <;> omega))⟩
  repeat (first | exact Below.refl _ _ | apply below_drewN | refine Below.alloc ?_ (by simp <;> omega) _)

set_option maxHeartbeats 1000000 in
theorem known_2 (w : World) :
    Calls Try.prog 7 #[.int .i64 2] w fun e w' => e = .returned (.bool true) ∧ Below w.heap.size w w' := by
  go_enter Try.func7, Try.ntmps7
  go_wp2_with (first
    | (go_at_call 16; refine (sum_lit _ 4 4 [9223372036854775807, 9223372036854775807, -9223372036854775808, -9223372036854775808] (-2) true (by decide) (by decide) _ (by exact has_new (zs := [9223372036854775807, 9223372036854775807, -9223372036854775808, -9223372036854775808]) (by decide) (by decide) (by intro i hi; go_simp))).mono ?_; rintro e w' ⟨rfl, rfl⟩)
    | (go_at_call 15; refine (known_any _).mono ?_; rintro e w' ⟨rfl, bel⟩))
  go_ret
  refine ⟨rfl, Below.trans ?_ (bel.mono (by simp <;> omega))⟩
  repeat (first | exact Below.refl _ _ | apply below_drewN | refine Below.alloc ?_ (by simp <;> omega) _)

set_option maxHeartbeats 1000000 in
theorem known_3 (w : World) :
    Calls Try.prog 7 #[.int .i64 3] w fun e w' => e = .returned (.bool true) ∧ Below w.heap.size w w' := by
  go_enter Try.func7, Try.ntmps7
  go_wp2_with (first
    | (go_at_call 16; refine (sum_lit _ 3 3 [9223372036854775807, 1, -1] 9223372036854775807 true (by decide) (by decide) _ (by exact has_new (zs := [9223372036854775807, 1, -1]) (by decide) (by decide) (by intro i hi; go_simp))).mono ?_; rintro e w' ⟨rfl, rfl⟩)
    | (go_at_call 15; refine (known_any _).mono ?_; rintro e w' ⟨rfl, bel⟩))
  go_ret
  refine ⟨rfl, Below.trans ?_ (bel.mono (by simp <;> omega))⟩
  repeat (first | exact Below.refl _ _ | apply below_drewN | refine Below.alloc ?_ (by simp <;> omega) _)

set_option maxHeartbeats 1000000 in
theorem known_4 (w : World) :
    Calls Try.prog 7 #[.int .i64 4] w fun e w' => e = .returned (.bool true) ∧ Below w.heap.size w w' := by
  go_enter Try.func7, Try.ntmps7
  go_wp2_with (first
    | (go_at_call 16; refine (sum_lit _ 2 2 [-9223372036854775808, 9223372036854775807] (-1) true (by decide) (by decide) _ (by exact has_new (zs := [-9223372036854775808, 9223372036854775807]) (by decide) (by decide) (by intro i hi; go_simp))).mono ?_; rintro e w' ⟨rfl, rfl⟩)
    | (go_at_call 15; refine (known_any _).mono ?_; rintro e w' ⟨rfl, bel⟩))
  go_ret
  refine ⟨rfl, Below.trans ?_ (bel.mono (by simp <;> omega))⟩
  repeat (first | exact Below.refl _ _ | apply below_drewN | refine Below.alloc ?_ (by simp <;> omega) _)

set_option maxHeartbeats 1000000 in
theorem known_5 (w : World) :
    Calls Try.prog 7 #[.int .i64 5] w fun e w' => e = .returned (.bool true) ∧ Below w.heap.size w w' := by
  go_enter Try.func7, Try.ntmps7
  go_wp2_with (first
    | (go_at_call 16; refine (sum_lit _ 0 0 [] 0 true (by decide) (by decide) _ (by exact ⟨rfl, by decide, by decide, .inl rfl⟩)).mono ?_; rintro e w' ⟨rfl, rfl⟩)
    | (go_at_call 15; refine (known_any _).mono ?_; rintro e w' ⟨rfl, bel⟩))
  go_ret
  refine ⟨rfl, Below.trans ?_ (bel.mono (by simp <;> omega))⟩
  repeat (first | exact Below.refl _ _ | apply below_drewN | refine Below.alloc ?_ (by simp <;> omega) _)

set_option maxHeartbeats 1000000 in
theorem known_6 (w : World) :
    Calls Try.prog 7 #[.int .i64 6] w fun e w' => e = .returned (.bool true) ∧ Below w.heap.size w w' := by
  go_enter Try.func7, Try.ntmps7
  go_wp2_with (first
    | (go_at_call 16; refine (sum_lit _ 5 5 [-9223372036854775808, -9223372036854775808, 9223372036854775807, 9223372036854775807, 2] 0 true (by decide) (by decide) _ (by exact has_new (zs := [-9223372036854775808, -9223372036854775808, 9223372036854775807, 9223372036854775807, 2]) (by decide) (by decide) (by intro i hi; go_simp))).mono ?_; rintro e w' ⟨rfl, rfl⟩)
    | (go_at_call 15; refine (known_any _).mono ?_; rintro e w' ⟨rfl, bel⟩))
  go_ret
  refine ⟨rfl, Below.trans ?_ (bel.mono (by simp <;> omega))⟩
  repeat (first | exact Below.refl _ _ | apply below_drewN | refine Below.alloc ?_ (by simp <;> omega) _)

set_option maxHeartbeats 1000000 in
theorem known_7 (w : World) :
    Calls Try.prog 7 #[.int .i64 7] w fun e w' => e = .returned (.bool true) ∧ Below w.heap.size w w' := by
  go_enter Try.func7, Try.ntmps7
  go_wp2_with (first
    | (go_at_call 16; refine (sum_lit _ 2 2 [4611686018427387904, 4611686018427387904] 0 false (by decide) (by decide) _ (by exact has_new (zs := [4611686018427387904, 4611686018427387904]) (by decide) (by decide) (by intro i hi; go_simp))).mono ?_; rintro e w' ⟨rfl, rfl⟩)
    | (go_at_call 15; refine (known_any _).mono ?_; rintro e w' ⟨rfl, bel⟩))
  go_ret
  refine ⟨rfl, Below.trans ?_ (bel.mono (by simp <;> omega))⟩
  repeat (first | exact Below.refl _ _ | apply below_drewN | refine Below.alloc ?_ (by simp <;> omega) _)

theorem cashKnown (a0 : Int) (w0 : (Lit.int .i64 a0).wf = true) (w : World) :
    Calls Try.prog 7 #[.int .i64 a0] w fun e w' => e = .returned (.bool true) ∧ Below w.heap.size w w' := by
  by_cases h : a0 < 0 ∨ 8 ≤ a0
  · exact known_out a0 h w
  · have h' : a0 = 0 ∨ a0 = 1 ∨ a0 = 2 ∨ a0 = 3 ∨ a0 = 4 ∨ a0 = 5 ∨ a0 = 6 ∨ a0 = 7 := by omega
    rcases h' with rfl | rfl | rfl | rfl | rfl | rfl | rfl | rfl
    · exact known_0 w
    · exact known_1 w
    · exact known_2 w
    · exact known_3 w
    · exact known_4 w
    · exact known_5 w
    · exact known_6 w
    · exact known_7 w

end Walk
end Go.Proofs.Ythkmjlbmefpaiaa
