/-
  girolaw11.known.
-/
import Derived.Test.YtddikbkodinmiaaPayCk
namespace Go.Proofs.Ytddikbkodinmiaa
open Go.RowKit
set_option linter.unusedVariables false
set_option linter.unusedSimpArgs false

set_option maxHeartbeats 4000000 in
theorem known11 (w : World) : Calls Try.prog 14 #[] w fun e w' => e = .returned (.bool true) ∧ Below w.heap.size w w' := by
  have L : ∀ w, Calls Try.prog 12 #[.agg #[.int .i64 1, .int .i64 0, .int .i64 1, .int .i64 5, .int .i64 3, .int .i64 3, .int .i64 5], .int .i64 6] w fun e w' => e = .returned (.bool true) ∧ Below w.heap.size w w' := fun w => late_any 1 0 1 5 3 3 5 6 w
  have R5 : ∀ w, Calls Try.prog 10 #[.agg #[.int .i64 1, .int .i64 0, .int .i64 1, .int .i64 5, .int .i64 3, .int .i64 3, .int .i64 5], .int .i64 5] w fun e w' => e = .returned (.bool true) ∧ Below w.heap.size w w' := fun w => ready_any 1 0 1 5 3 3 5 5 w
  have R2 : ∀ w, Calls Try.prog 10 #[.agg #[.int .i64 1, .int .i64 0, .int .i64 1, .int .i64 5, .int .i64 3, .int .i64 3, .int .i64 5], .int .i64 2] w fun e w' => e = .returned (.bool false) ∧ Below w.heap.size w w' := fun w => ready_any 1 0 1 5 3 3 5 2 w
  have C0 : ∀ w, Calls Try.prog 8 #[.agg #[.int .i64 2, .slice none 0 0, .int .i64 5, .int .i64 9, .int .i64 3], .int .i64 0, .agg #[.int .i64 1, .int .i64 0, .int .i64 1, .int .i64 5, .int .i64 3, .int .i64 3, .int .i64 5]] w fun e w' => e = .returned (.int .i64 0) ∧ Below w.heap.size w w' := fun w => check_any 2 none 0 0 5 9 3 1 0 1 5 3 3 5 0 w
  have C5 : ∀ w, Calls Try.prog 8 #[.agg #[.int .i64 2, .slice none 0 0, .int .i64 5, .int .i64 9, .int .i64 3], .int .i64 5, .agg #[.int .i64 1, .int .i64 0, .int .i64 1, .int .i64 5, .int .i64 3, .int .i64 3, .int .i64 5]] w fun e w' => e = .returned (.int .i64 7) ∧ Below w.heap.size w w' := fun w => check_any 2 none 0 0 5 9 3 1 0 1 5 3 3 5 5 w
  obtain ⟨w2, hw2⟩ : ∃ w2, w2 = (w.alloc (.cells #[.int .i64 1, .int .i64 0, .int .i64 1, .int .i64 5, .int .i64 3, .int .i64 3, .int .i64 5] 26)).alloc (.cells #[.int .i64 2, .slice none 0 0, .int .i64 5, .int .i64 9, .int .i64 3] 24) := ⟨_, rfl⟩
  have B2 : Hid (Below w.heap.size w w2) := by rw [hw2]; exact (box_below _ _).alloc (box_below _ _).size _
  have P2 : Hid (At7 w2 w.heap.size 0 (1, 0, 1, 5, 3, 3, 5)) := by rw [hw2]; exact (At7.new w (1, 0, 1, 5, 3, 3, 5) _ _).below (box_below _ _)
  have Q2 : Hid (RulAt w2 (w.heap.size + 1) 2 none 0 0 5 9 3) := by
    have := rul_new (w.alloc (.cells #[.int .i64 1, .int .i64 0, .int .i64 1, .int .i64 5, .int .i64 3, .int .i64 3, .int .i64 5] 26)) 2 none 0 0 5 9 3 24 (0, 0)
    rw [size_alloc] at this
    rw [hw2]
    exact this
  go_enter Try.func14, Try.ntmps14
  go_wp2_with fail
  go_at_call 12
  rw [← hw2]
  refine (L _).mono ?_
  rintro e w3 ⟨rfl, hb⟩
  have B3 : Hid (Below w.heap.size w w3) := B2.out.trans (hb.mono B2.out.size)
  have P3 : Hid (At7 w3 w.heap.size 0 (1, 0, 1, 5, 3, 3, 5)) := P2.out.below hb
  have Q3 : Hid (RulAt w3 (w.heap.size + 1) 2 none 0 0 5 9 3) := Q2.out.below hb
  obtain ⟨p0, p1, p2, p3, p4, p5, p6⟩ := P3.out
  simp only [P7.id, P7.fr, P7.to, P7.am, P7.cl, P7.st, P7.ti, Nat.zero_add] at p0 p1 p2 p3 p4 p5 p6
  clear hb hw2 B2 P2 Q2 L
  go_wp2_with fail
  go_at_call 10
  refine (R5 _).mono ?_
  rintro e w4 ⟨rfl, hb⟩
  have B4 : Hid (Below w.heap.size w w4) := B3.out.trans (hb.mono B3.out.size)
  have P4 : Hid (At7 w4 w.heap.size 0 (1, 0, 1, 5, 3, 3, 5)) := P3.out.below hb
  have Q4 : Hid (RulAt w4 (w.heap.size + 1) 2 none 0 0 5 9 3) := Q3.out.below hb
  clear p0 p1 p2 p3 p4 p5 p6
  obtain ⟨p0, p1, p2, p3, p4, p5, p6⟩ := P4.out
  simp only [P7.id, P7.fr, P7.to, P7.am, P7.cl, P7.st, P7.ti, Nat.zero_add] at p0 p1 p2 p3 p4 p5 p6
  clear hb B3 P3 Q3 R5
  go_wp2_with fail
  go_at_call 10
  refine (R2 _).mono ?_
  rintro e w5 ⟨rfl, hb⟩
  have B5 : Hid (Below w.heap.size w w5) := B4.out.trans (hb.mono B4.out.size)
  have P5 : Hid (At7 w5 w.heap.size 0 (1, 0, 1, 5, 3, 3, 5)) := P4.out.below hb
  have Q5 : Hid (RulAt w5 (w.heap.size + 1) 2 none 0 0 5 9 3) := Q4.out.below hb
  clear p0 p1 p2 p3 p4 p5 p6
  obtain ⟨p0, p1, p2, p3, p4, p5, p6⟩ := P5.out
  simp only [P7.id, P7.fr, P7.to, P7.am, P7.cl, P7.st, P7.ti, Nat.zero_add] at p0 p1 p2 p3 p4 p5 p6
  obtain ⟨r0, r1, r2, r3, r4⟩ := Q5.out
  clear hb B4 P4 Q4 R2
  go_wp2_with fail
  go_at_call 8
  refine (C0 _).mono ?_
  rintro e w6 ⟨rfl, hb⟩
  have B6 : Hid (Below w.heap.size w w6) := B5.out.trans (hb.mono B5.out.size)
  have P6 : Hid (At7 w6 w.heap.size 0 (1, 0, 1, 5, 3, 3, 5)) := P5.out.below hb
  have Q6 : Hid (RulAt w6 (w.heap.size + 1) 2 none 0 0 5 9 3) := Q5.out.below hb
  clear p0 p1 p2 p3 p4 p5 p6 r0 r1 r2 r3 r4
  obtain ⟨p0, p1, p2, p3, p4, p5, p6⟩ := P6.out
  simp only [P7.id, P7.fr, P7.to, P7.am, P7.cl, P7.st, P7.ti, Nat.zero_add] at p0 p1 p2 p3 p4 p5 p6
  obtain ⟨r0, r1, r2, r3, r4⟩ := Q6.out
  clear hb B5 P5 Q5 C0
  go_wp2_with fail
  go_at_call 8
  refine (C5 _).mono ?_
  rintro e w7 ⟨rfl, hb⟩
  have B7 : Hid (Below w.heap.size w w7) := B6.out.trans (hb.mono B6.out.size)
  clear hb
  go_wp2
  go_ret
  exact ⟨rfl, B7.out⟩

end Go.Proofs.Ytddikbkodinmiaa
