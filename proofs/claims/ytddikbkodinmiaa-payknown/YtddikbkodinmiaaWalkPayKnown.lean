/-
  The walk of PayKnown.
-/
import Derived.Test.YtddikbkodinmiaaKnown11
namespace Go.Proofs.Ytddikbkodinmiaa
open Go.RowKit
set_option linter.unusedVariables false
set_option linter.unusedSimpArgs false
namespace Walk

theorem pknown_out (way : Int) (w : World) (h : ∀ k : Int, 0 ≤ k → k ≤ 10 → ¬ way = k) : Calls Try.prog 6 #[.int .i64 way] w fun e w' => e = .returned (.bool true) ∧ Below w.heap.size w w' := by
  have h0 : (way == 0) = false := by simpa using h 0 (by omega) (by omega)
  have h1 : (way == 1) = false := by simpa using h 1 (by omega) (by omega)
  have h2 : (way == 2) = false := by simpa using h 2 (by omega) (by omega)
  have h3 : (way == 3) = false := by simpa using h 3 (by omega) (by omega)
  have h4 : (way == 4) = false := by simpa using h 4 (by omega) (by omega)
  have h5 : (way == 5) = false := by simpa using h 5 (by omega) (by omega)
  have h6 : (way == 6) = false := by simpa using h 6 (by omega) (by omega)
  have h7 : (way == 7) = false := by simpa using h 7 (by omega) (by omega)
  have h8 : (way == 8) = false := by simpa using h 8 (by omega) (by omega)
  have h9 : (way == 9) = false := by simpa using h 9 (by omega) (by omega)
  have h10 : (way == 10) = false := by simpa using h 10 (by omega) (by omega)
  clear h
  go_enter Try.func6, Try.ntmps6
  go_wp2
  go_ret
  exact ⟨rfl, (box_below _ _).alloc (box_below _ _).size _⟩

set_option maxHeartbeats 4000000 in
theorem pknown_0 (w : World) : Calls Try.prog 6 #[.int .i64 0] w fun e w' => e = .returned (.bool true) ∧ Below w.heap.size w w' := by
  have C : ∀ w, Calls Try.prog 8 #[.agg #[.int .i64 2, .slice none 0 0, .int .i64 5, .int .i64 9, .int .i64 3], .int .i64 0, .agg #[.int .i64 0, .int .i64 0, .int .i64 1, .int .i64 5, .int .i64 3, .int .i64 3, .int .i64 5]] w fun e w' => e = .returned (.int .i64 1) ∧ Below w.heap.size w w' := fun w => check_any 2 none 0 0 5 9 3 0 0 1 5 3 3 5 0 w
  go_enter Try.func6, Try.ntmps6
  go_wp2_with fail
  go_at_call 8
  refine (C _).mono ?_
  rintro e w3 ⟨rfl, hb⟩
  have B2 : Hid (Below w.heap.size w ((w.alloc (.cells #[.int .i64 2, .slice none 0 0, .int .i64 5, .int .i64 9, .int .i64 3] 24)).alloc (.cells #[.int .i64 0, .int .i64 0, .int .i64 1, .int .i64 5, .int .i64 3, .int .i64 3, .int .i64 5] 26))) := (box_below _ _).alloc (box_below _ _).size _
  have B3 : Hid (Below w.heap.size w w3) := B2.out.trans (hb.mono B2.out.size)
  clear hb C B2
  go_wp2_with fail
  go_at_call 14
  refine (known11 _).mono ?_
  rintro e w4 ⟨rfl, b4⟩
  have B4 : Hid (Below w.heap.size w w4) := B3.out.trans (b4.mono B3.out.size)
  clear b4
  go_wp2
  go_ret
  exact ⟨rfl, B4.out⟩

set_option maxHeartbeats 4000000 in
theorem pknown_1 (w : World) : Calls Try.prog 6 #[.int .i64 1] w fun e w' => e = .returned (.bool true) ∧ Below w.heap.size w w' := by
  have C : ∀ w, Calls Try.prog 8 #[.agg #[.int .i64 2, .slice none 0 0, .int .i64 5, .int .i64 9, .int .i64 3], .int .i64 0, .agg #[.int .i64 1, .int .i64 0, .int .i64 2, .int .i64 5, .int .i64 3, .int .i64 3, .int .i64 5]] w fun e w' => e = .returned (.int .i64 1) ∧ Below w.heap.size w w' := fun w => check_any 2 none 0 0 5 9 3 1 0 2 5 3 3 5 0 w
  go_enter Try.func6, Try.ntmps6
  go_wp2_with fail
  go_at_call 8
  refine (C _).mono ?_
  rintro e w3 ⟨rfl, hb⟩
  have B2 : Hid (Below w.heap.size w ((w.alloc (.cells #[.int .i64 2, .slice none 0 0, .int .i64 5, .int .i64 9, .int .i64 3] 24)).alloc (.cells #[.int .i64 1, .int .i64 0, .int .i64 2, .int .i64 5, .int .i64 3, .int .i64 3, .int .i64 5] 26))) := (box_below _ _).alloc (box_below _ _).size _
  have B3 : Hid (Below w.heap.size w w3) := B2.out.trans (hb.mono B2.out.size)
  clear hb C B2
  go_wp2_with fail
  go_at_call 14
  refine (known11 _).mono ?_
  rintro e w4 ⟨rfl, b4⟩
  have B4 : Hid (Below w.heap.size w w4) := B3.out.trans (b4.mono B3.out.size)
  clear b4
  go_wp2
  go_ret
  exact ⟨rfl, B4.out⟩

set_option maxHeartbeats 4000000 in
theorem pknown_2 (w : World) : Calls Try.prog 6 #[.int .i64 2] w fun e w' => e = .returned (.bool true) ∧ Below w.heap.size w w' := by
  have C : ∀ w, Calls Try.prog 8 #[.agg #[.int .i64 2, .slice none 0 0, .int .i64 5, .int .i64 9, .int .i64 3], .int .i64 0, .agg #[.int .i64 1, .int .i64 0, .int .i64 0, .int .i64 5, .int .i64 3, .int .i64 3, .int .i64 5]] w fun e w' => e = .returned (.int .i64 1) ∧ Below w.heap.size w w' := fun w => check_any 2 none 0 0 5 9 3 1 0 0 5 3 3 5 0 w
  go_enter Try.func6, Try.ntmps6
  go_wp2_with fail
  go_at_call 8
  refine (C _).mono ?_
  rintro e w3 ⟨rfl, hb⟩
  have B2 : Hid (Below w.heap.size w ((w.alloc (.cells #[.int .i64 2, .slice none 0 0, .int .i64 5, .int .i64 9, .int .i64 3] 24)).alloc (.cells #[.int .i64 1, .int .i64 0, .int .i64 0, .int .i64 5, .int .i64 3, .int .i64 3, .int .i64 5] 26))) := (box_below _ _).alloc (box_below _ _).size _
  have B3 : Hid (Below w.heap.size w w3) := B2.out.trans (hb.mono B2.out.size)
  clear hb C B2
  go_wp2_with fail
  go_at_call 14
  refine (known11 _).mono ?_
  rintro e w4 ⟨rfl, b4⟩
  have B4 : Hid (Below w.heap.size w w4) := B3.out.trans (b4.mono B3.out.size)
  clear b4
  go_wp2
  go_ret
  exact ⟨rfl, B4.out⟩

set_option maxHeartbeats 4000000 in
theorem pknown_3 (w : World) : Calls Try.prog 6 #[.int .i64 3] w fun e w' => e = .returned (.bool true) ∧ Below w.heap.size w w' := by
  have C : ∀ w, Calls Try.prog 8 #[.agg #[.int .i64 2, .slice none 0 0, .int .i64 5, .int .i64 9, .int .i64 3], .int .i64 0, .agg #[.int .i64 1, .int .i64 0, .int .i64 1, .int .i64 0, .int .i64 3, .int .i64 3, .int .i64 5]] w fun e w' => e = .returned (.int .i64 1) ∧ Below w.heap.size w w' := fun w => check_any 2 none 0 0 5 9 3 1 0 1 0 3 3 5 0 w
  go_enter Try.func6, Try.ntmps6
  go_wp2_with fail
  go_at_call 8
  refine (C _).mono ?_
  rintro e w3 ⟨rfl, hb⟩
  have B2 : Hid (Below w.heap.size w ((w.alloc (.cells #[.int .i64 2, .slice none 0 0, .int .i64 5, .int .i64 9, .int .i64 3] 24)).alloc (.cells #[.int .i64 1, .int .i64 0, .int .i64 1, .int .i64 0, .int .i64 3, .int .i64 3, .int .i64 5] 26))) := (box_below _ _).alloc (box_below _ _).size _
  have B3 : Hid (Below w.heap.size w w3) := B2.out.trans (hb.mono B2.out.size)
  clear hb C B2
  go_wp2_with fail
  go_at_call 14
  refine (known11 _).mono ?_
  rintro e w4 ⟨rfl, b4⟩
  have B4 : Hid (Below w.heap.size w w4) := B3.out.trans (b4.mono B3.out.size)
  clear b4
  go_wp2
  go_ret
  exact ⟨rfl, B4.out⟩

set_option maxHeartbeats 4000000 in
theorem pknown_4 (w : World) : Calls Try.prog 6 #[.int .i64 4] w fun e w' => e = .returned (.bool true) ∧ Below w.heap.size w w' := by
  have C : ∀ w, Calls Try.prog 8 #[.agg #[.int .i64 2, .slice none 0 0, .int .i64 5, .int .i64 9, .int .i64 3], .int .i64 0, .agg #[.int .i64 1, .int .i64 0, .int .i64 1, .int .i64 1099511627777, .int .i64 3, .int .i64 3, .int .i64 5]] w fun e w' => e = .returned (.int .i64 1) ∧ Below w.heap.size w w' := fun w => check_any 2 none 0 0 5 9 3 1 0 1 1099511627777 3 3 5 0 w
  go_enter Try.func6, Try.ntmps6
  go_wp2_with fail
  go_at_call 8
  refine (C _).mono ?_
  rintro e w3 ⟨rfl, hb⟩
  have B2 : Hid (Below w.heap.size w ((w.alloc (.cells #[.int .i64 2, .slice none 0 0, .int .i64 5, .int .i64 9, .int .i64 3] 24)).alloc (.cells #[.int .i64 1, .int .i64 0, .int .i64 1, .int .i64 1099511627777, .int .i64 3, .int .i64 3, .int .i64 5] 26))) := (box_below _ _).alloc (box_below _ _).size _
  have B3 : Hid (Below w.heap.size w w3) := B2.out.trans (hb.mono B2.out.size)
  clear hb C B2
  go_wp2_with fail
  go_at_call 14
  refine (known11 _).mono ?_
  rintro e w4 ⟨rfl, b4⟩
  have B4 : Hid (Below w.heap.size w w4) := B3.out.trans (b4.mono B3.out.size)
  clear b4
  go_wp2
  go_ret
  exact ⟨rfl, B4.out⟩

set_option maxHeartbeats 4000000 in
theorem pknown_5 (w : World) : Calls Try.prog 6 #[.int .i64 5] w fun e w' => e = .returned (.bool true) ∧ Below w.heap.size w w' := by
  have C : ∀ w, Calls Try.prog 8 #[.agg #[.int .i64 2, .slice none 0 0, .int .i64 5, .int .i64 9, .int .i64 3], .int .i64 0, .agg #[.int .i64 1, .int .i64 0, .int .i64 1, .int .i64 5, .int .i64 4, .int .i64 3, .int .i64 5]] w fun e w' => e = .returned (.int .i64 1) ∧ Below w.heap.size w w' := fun w => check_any 2 none 0 0 5 9 3 1 0 1 5 4 3 5 0 w
  go_enter Try.func6, Try.ntmps6
  go_wp2_with fail
  go_at_call 8
  refine (C _).mono ?_
  rintro e w3 ⟨rfl, hb⟩
  have B2 : Hid (Below w.heap.size w ((w.alloc (.cells #[.int .i64 2, .slice none 0 0, .int .i64 5, .int .i64 9, .int .i64 3] 24)).alloc (.cells #[.int .i64 1, .int .i64 0, .int .i64 1, .int .i64 5, .int .i64 4, .int .i64 3, .int .i64 5] 26))) := (box_below _ _).alloc (box_below _ _).size _
  have B3 : Hid (Below w.heap.size w w3) := B2.out.trans (hb.mono B2.out.size)
  clear hb C B2
  go_wp2_with fail
  go_at_call 14
  refine (known11 _).mono ?_
  rintro e w4 ⟨rfl, b4⟩
  have B4 : Hid (Below w.heap.size w w4) := B3.out.trans (b4.mono B3.out.size)
  clear b4
  go_wp2
  go_ret
  exact ⟨rfl, B4.out⟩

set_option maxHeartbeats 4000000 in
theorem pknown_6 (w : World) : Calls Try.prog 6 #[.int .i64 6] w fun e w' => e = .returned (.bool true) ∧ Below w.heap.size w w' := by
  have C : ∀ w, Calls Try.prog 8 #[.agg #[.int .i64 2, .slice none 0 0, .int .i64 5, .int .i64 9, .int .i64 3], .int .i64 0, .agg #[.int .i64 1, .int .i64 0, .int .i64 1, .int .i64 5, .int .i64 3, .int .i64 6, .int .i64 5]] w fun e w' => e = .returned (.int .i64 1) ∧ Below w.heap.size w w' := fun w => check_any 2 none 0 0 5 9 3 1 0 1 5 3 6 5 0 w
  go_enter Try.func6, Try.ntmps6
  go_wp2_with fail
  go_at_call 8
  refine (C _).mono ?_
  rintro e w3 ⟨rfl, hb⟩
  have B2 : Hid (Below w.heap.size w ((w.alloc (.cells #[.int .i64 2, .slice none 0 0, .int .i64 5, .int .i64 9, .int .i64 3] 24)).alloc (.cells #[.int .i64 1, .int .i64 0, .int .i64 1, .int .i64 5, .int .i64 3, .int .i64 6, .int .i64 5] 26))) := (box_below _ _).alloc (box_below _ _).size _
  have B3 : Hid (Below w.heap.size w w3) := B2.out.trans (hb.mono B2.out.size)
  clear hb C B2
  go_wp2_with fail
  go_at_call 14
  refine (known11 _).mono ?_
  rintro e w4 ⟨rfl, b4⟩
  have B4 : Hid (Below w.heap.size w w4) := B3.out.trans (b4.mono B3.out.size)
  clear b4
  go_wp2
  go_ret
  exact ⟨rfl, B4.out⟩

set_option maxHeartbeats 4000000 in
theorem pknown_7 (w : World) : Calls Try.prog 6 #[.int .i64 7] w fun e w' => e = .returned (.bool true) ∧ Below w.heap.size w w' := by
  have C : ∀ w, Calls Try.prog 8 #[.agg #[.int .i64 2, .slice none 0 0, .int .i64 5, .int .i64 9, .int .i64 3], .int .i64 0, .agg #[.int .i64 1, .int .i64 0, .int .i64 1, .int .i64 5, .int .i64 3, .int .i64 (-1), .int .i64 5]] w fun e w' => e = .returned (.int .i64 1) ∧ Below w.heap.size w w' := fun w => check_any 2 none 0 0 5 9 3 1 0 1 5 3 (-1) 5 0 w
  go_enter Try.func6, Try.ntmps6
  go_wp2_with fail
  go_at_call 8
  refine (C _).mono ?_
  rintro e w3 ⟨rfl, hb⟩
  have B2 : Hid (Below w.heap.size w ((w.alloc (.cells #[.int .i64 2, .slice none 0 0, .int .i64 5, .int .i64 9, .int .i64 3] 24)).alloc (.cells #[.int .i64 1, .int .i64 0, .int .i64 1, .int .i64 5, .int .i64 3, .int .i64 (-1), .int .i64 5] 26))) := (box_below _ _).alloc (box_below _ _).size _
  have B3 : Hid (Below w.heap.size w w3) := B2.out.trans (hb.mono B2.out.size)
  clear hb C B2
  go_wp2_with fail
  go_at_call 14
  refine (known11 _).mono ?_
  rintro e w4 ⟨rfl, b4⟩
  have B4 : Hid (Below w.heap.size w w4) := B3.out.trans (b4.mono B3.out.size)
  clear b4
  go_wp2
  go_ret
  exact ⟨rfl, B4.out⟩

set_option maxHeartbeats 4000000 in
theorem pknown_8 (w : World) : Calls Try.prog 6 #[.int .i64 8] w fun e w' => e = .returned (.bool true) ∧ Below w.heap.size w w' := by
  have C : ∀ w, Calls Try.prog 8 #[.agg #[.int .i64 2, .slice none 0 0, .int .i64 5, .int .i64 9, .int .i64 3], .int .i64 6, .agg #[.int .i64 1, .int .i64 0, .int .i64 1, .int .i64 5, .int .i64 3, .int .i64 3, .int .i64 5]] w fun e w' => e = .returned (.int .i64 1) ∧ Below w.heap.size w w' := fun w => check_any 2 none 0 0 5 9 3 1 0 1 5 3 3 5 6 w
  go_enter Try.func6, Try.ntmps6
  go_wp2_with fail
  go_at_call 8
  refine (C _).mono ?_
  rintro e w3 ⟨rfl, hb⟩
  have B2 : Hid (Below w.heap.size w ((w.alloc (.cells #[.int .i64 2, .slice none 0 0, .int .i64 5, .int .i64 9, .int .i64 3] 24)).alloc (.cells #[.int .i64 1, .int .i64 0, .int .i64 1, .int .i64 5, .int .i64 3, .int .i64 3, .int .i64 5] 26))) := (box_below _ _).alloc (box_below _ _).size _
  have B3 : Hid (Below w.heap.size w w3) := B2.out.trans (hb.mono B2.out.size)
  clear hb C B2
  go_wp2_with fail
  go_at_call 14
  refine (known11 _).mono ?_
  rintro e w4 ⟨rfl, b4⟩
  have B4 : Hid (Below w.heap.size w w4) := B3.out.trans (b4.mono B3.out.size)
  clear b4
  go_wp2
  go_ret
  exact ⟨rfl, B4.out⟩

set_option maxHeartbeats 4000000 in
theorem pknown_9 (w : World) : Calls Try.prog 6 #[.int .i64 9] w fun e w' => e = .returned (.bool true) ∧ Below w.heap.size w w' := by
  have C : ∀ w, Calls Try.prog 8 #[.agg #[.int .i64 2, .slice none 0 0, .int .i64 5, .int .i64 9, .int .i64 3], .int .i64 0, .agg #[.int .i64 1, .int .i64 0, .int .i64 1, .int .i64 5, .int .i64 3, .int .i64 3, .int .i64 1048577]] w fun e w' => e = .returned (.int .i64 1) ∧ Below w.heap.size w w' := fun w => check_any 2 none 0 0 5 9 3 1 0 1 5 3 3 1048577 0 w
  go_enter Try.func6, Try.ntmps6
  go_wp2_with fail
  go_at_call 8
  refine (C _).mono ?_
  rintro e w3 ⟨rfl, hb⟩
  have B2 : Hid (Below w.heap.size w ((w.alloc (.cells #[.int .i64 2, .slice none 0 0, .int .i64 5, .int .i64 9, .int .i64 3] 24)).alloc (.cells #[.int .i64 1, .int .i64 0, .int .i64 1, .int .i64 5, .int .i64 3, .int .i64 3, .int .i64 1048577] 26))) := (box_below _ _).alloc (box_below _ _).size _
  have B3 : Hid (Below w.heap.size w w3) := B2.out.trans (hb.mono B2.out.size)
  clear hb C B2
  go_wp2_with fail
  go_at_call 14
  refine (known11 _).mono ?_
  rintro e w4 ⟨rfl, b4⟩
  have B4 : Hid (Below w.heap.size w w4) := B3.out.trans (b4.mono B3.out.size)
  clear b4
  go_wp2
  go_ret
  exact ⟨rfl, B4.out⟩

set_option maxHeartbeats 4000000 in
theorem pknown_10 (w : World) : Calls Try.prog 6 #[.int .i64 10] w fun e w' => e = .returned (.bool true) ∧ Below w.heap.size w w' := by
  have C : ∀ w, Calls Try.prog 8 #[.agg #[.int .i64 2, .slice none 0 0, .int .i64 5, .int .i64 9, .int .i64 3], .int .i64 0, .agg #[.int .i64 1, .int .i64 (-1), .int .i64 1, .int .i64 5, .int .i64 3, .int .i64 3, .int .i64 5]] w fun e w' => e = .returned (.int .i64 1) ∧ Below w.heap.size w w' := fun w => check_any 2 none 0 0 5 9 3 1 (-1) 1 5 3 3 5 0 w
  go_enter Try.func6, Try.ntmps6
  go_wp2_with fail
  go_at_call 8
  refine (C _).mono ?_
  rintro e w3 ⟨rfl, hb⟩
  have B2 : Hid (Below w.heap.size w ((w.alloc (.cells #[.int .i64 2, .slice none 0 0, .int .i64 5, .int .i64 9, .int .i64 3] 24)).alloc (.cells #[.int .i64 1, .int .i64 (-1), .int .i64 1, .int .i64 5, .int .i64 3, .int .i64 3, .int .i64 5] 26))) := (box_below _ _).alloc (box_below _ _).size _
  have B3 : Hid (Below w.heap.size w w3) := B2.out.trans (hb.mono B2.out.size)
  clear hb C B2
  go_wp2_with fail
  go_at_call 14
  refine (known11 _).mono ?_
  rintro e w4 ⟨rfl, b4⟩
  have B4 : Hid (Below w.heap.size w w4) := B3.out.trans (b4.mono B3.out.size)
  clear b4
  go_wp2
  go_ret
  exact ⟨rfl, B4.out⟩

theorem payKnown (a0 : Int) (w0 : (Lit.int .i64 a0).wf = true) (w : World) : Calls Try.prog 6 #[.int .i64 a0] w fun e w' => e = .returned (.bool true) ∧ Below w.heap.size w w' := by
  by_cases h0 : a0 = 0
  · subst h0; exact pknown_0 w
  by_cases h1 : a0 = 1
  · subst h1; exact pknown_1 w
  by_cases h2 : a0 = 2
  · subst h2; exact pknown_2 w
  by_cases h3 : a0 = 3
  · subst h3; exact pknown_3 w
  by_cases h4 : a0 = 4
  · subst h4; exact pknown_4 w
  by_cases h5 : a0 = 5
  · subst h5; exact pknown_5 w
  by_cases h6 : a0 = 6
  · subst h6; exact pknown_6 w
  by_cases h7 : a0 = 7
  · subst h7; exact pknown_7 w
  by_cases h8 : a0 = 8
  · subst h8; exact pknown_8 w
  by_cases h9 : a0 = 9
  · subst h9; exact pknown_9 w
  by_cases h10 : a0 = 10
  · subst h10; exact pknown_10 w
  exact pknown_out a0 w (fun k h h' => by omega)

end Walk
end Go.Proofs.Ytddikbkodinmiaa
