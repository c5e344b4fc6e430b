/-
  girolaw9.known.
-/
import Derived.Test.YtnmldnokoihajaaAcctDo
namespace Go.Proofs.Ytnmldnokoihajaa
open Go.RowKit
set_option linter.unusedVariables false
set_option linter.unusedSimpArgs false

set_option maxHeartbeats 2000000 in
theorem known9 (w : World) : Calls Try.prog 9 #[] w fun e w' => e = .returned (.bool true) ∧ Below w.heap.size w w' := by
  have O : ∀ w, Calls Try.prog 12 #[.agg #[.int .i64 5, .int .i64 3, .int .i64 2], .int .i64 1, .int .i64 2] w (AccEnd w 4 3 1 0) := fun w => accOut_any 5 3 2 1 2 (by decide) (by decide) (by decide) w
  have R3 : ∀ w, Calls Try.prog 14 #[.agg #[.int .i64 5, .int .i64 3, .int .i64 2], .int .i64 3] w fun e w' => e = .returned (.int .i64 6) ∧ Below w.heap.size w w' := fun w => room_any 5 3 2 3 (by decide) w
  have R1 : ∀ w, Calls Try.prog 14 #[.agg #[.int .i64 5, .int .i64 3, .int .i64 2], .int .i64 1] w fun e w' => e = .returned (.int .i64 8) ∧ Below w.heap.size w w' := fun w => room_any 5 3 2 1 (by decide) w
  go_enter Try.func9, Try.ntmps9
  go_wp2_with fail
  go_at_call 12
  refine (O _).mono ?_
  rintro e w1 ⟨rfl, hb1⟩
  have A1 : Hid (Acc w1 w.heap.size 5 3 2) := (Acc.new w 5 3 2).below hb1
  have B1 : Hid (Below w.heap.size w w1) := (box_below _ _).trans (hb1.mono (box_below _ _).size)
  have A2 : Hid (Acc (w1.alloc (.cells #[.int .i64 4, .int .i64 3, .int .i64 1] 23)) w.heap.size 5 3 2) := A1.out.below (box_below _ _)
  have C2 : Hid (Acc (w1.alloc (.cells #[.int .i64 4, .int .i64 3, .int .i64 1] 23)) w1.heap.size 4 3 1) := Acc.new _ _ _ _
  have B2 : Hid (Below w.heap.size w (w1.alloc (.cells #[.int .i64 4, .int .i64 3, .int .i64 1] 23))) := B1.out.alloc B1.out.size _
  obtain ⟨p0, p1, p2⟩ := A2.out.at3
  clear hb1 O A1 B1
  go_wp2_with fail
  go_at_call 14
  refine (R3 _).mono ?_
  rintro e w3 ⟨rfl, hb3⟩
  have A3 : Hid (Acc w3 w.heap.size 5 3 2) := A2.out.below hb3
  have C3 : Hid (Acc w3 w1.heap.size 4 3 1) := C2.out.below hb3
  have B3 : Hid (Below w.heap.size w w3) := B2.out.trans (hb3.mono B2.out.size)
  clear hb3 R3 A2 C2 B2 p0 p1 p2
  obtain ⟨p0, p1, p2⟩ := A3.out.at3
  go_wp2_with fail
  go_at_call 14
  refine (R1 _).mono ?_
  rintro e w4 ⟨rfl, hb4⟩
  have B4 : Hid (Below w.heap.size w w4) := B3.out.trans (hb4.mono B3.out.size)
  obtain ⟨q0, q1, q2⟩ := (C3.out.below hb4).at3
  clear hb4 R1 A3 C3 B3 p0 p1 p2
  go_wp2
  go_ret
  exact ⟨rfl, B4.out⟩

end Go.Proofs.Ytnmldnokoihajaa
