/-
  The walk of PayTimes.
-/
import Derived.Test.YtddikbkodinmiaaKnown11
import Derived.Test.YtddikbkodinmiaaFacts3
import Derived.Test.YtddikbkodinmiaaFactK
import Derived.Test.YtddikbkodinmiaaPayArg
namespace Go.Proofs.Ytddikbkodinmiaa
open Go.RowKit
set_option linter.unusedVariables false
set_option linter.unusedSimpArgs false
namespace Walk

theorem late_more {u t k : Int} (h : 0 ≤ k) (hl : lateB u t = true) : lateB u (t + k) = true := by
  simp only [lateB, decide_eq_true_iff] at hl ⊢; omega
theorem times_three {s u t : Int} (h : s ≤ t) : (readyB s u t = true ∧ lateB u t = false) ∨ (readyB s u t = false ∧ lateB u t = true) := by
  simp only [readyB, lateB, decide_eq_true_iff, decide_eq_false_iff_not]; omega
theorem times_yet {s u t : Int} (h : t < s) : readyB s u t = false := by
  simp only [readyB, decide_eq_false_iff_not]; omega

theorem payTimes_out (i f o m c s u t k : Int) (w : World) (h : k < 0 ∨ 1099511627776 < k ∨ 1099511627776 < t ∨ t < -1099511627776) : Calls Try.prog 4 #[.agg #[.int .i64 i, .int .i64 f, .int .i64 o, .int .i64 m, .int .i64 c, .int .i64 s, .int .i64 u], .int .i64 t, .int .i64 k] w fun e w' => e = .returned (.bool true) ∧ Below w.heap.size w w' := by
  rcases Int.lt_or_le k 0 with h1 | h1
  · go_enter Try.func4, Try.ntmps4
    go_wp2
    go_ret
    exact ⟨rfl, box_below _ _⟩
  rcases Int.lt_or_le 1099511627776 k with h2 | h2
  · go_enter Try.func4, Try.ntmps4
    go_wp2
    go_ret
    exact ⟨rfl, box_below _ _⟩
  rcases Int.lt_or_le 1099511627776 t with h3 | h3
  · go_enter Try.func4, Try.ntmps4
    go_wp2
    go_ret
    exact ⟨rfl, box_below _ _⟩
  have h4 : t < -1099511627776 := by omega
  go_enter Try.func4, Try.ntmps4
  go_wp2
  go_ret
  exact ⟨rfl, box_below _ _⟩

set_option maxHeartbeats 4000000 in
theorem payTimes_ready (i f o m c s v t k : Int) (w : World) (h1 : 0 ≤ k) (h2 : k ≤ 1099511627776) (h3 : t ≤ 1099511627776) (h4 : -1099511627776 ≤ t) (ha : readyB s v t = true) (hl : lateB v t = false) : Calls Try.prog 4 #[.agg #[.int .i64 i, .int .i64 f, .int .i64 o, .int .i64 m, .int .i64 c, .int .i64 s, .int .i64 v], .int .i64 t, .int .i64 k] w fun e w' => e = .returned (.bool true) ∧ Below w.heap.size w w' := by
  have R1 := ready_any i f o m c s v t
  have L1 := late_any i f o m c s v t
  rw [ha] at R1
  rw [hl] at L1
  have A0 : Hid (At7 (w.alloc (.cells #[.int .i64 i, .int .i64 f, .int .i64 o, .int .i64 m, .int .i64 c, .int .i64 s, .int .i64 v] 26)) w.heap.size 0 (i, f, o, m, c, s, v)) := At7.new w (i, f, o, m, c, s, v) _ _
  clear ha hl
  go_enter Try.func4, Try.ntmps4
  go_wp2
  refine region_owes (L := [Fact.is (.agg #[.int .i64 i, .int .i64 f, .int .i64 o, .int .i64 m, .int .i64 c, .int .i64 s, .int .i64 v]),
    Fact.is (.int .i64 t),
    Fact.is (.bool true),
    Fact.is (.agg #[.int .i64 i, .int .i64 f, .int .i64 o, .int .i64 m, .int .i64 c, .int .i64 s, .int .i64 v]),
    Fact.is (.int .i64 t),
    Fact.is (.bool false),
    Fact.is (.bool true),
    Fact.is (.bool false)])
    (T := [23, 24, 25, 26, 27, 28, 7, 8]) (by kernel_rfl) (by kernel_rfl) rfl ?owes ?_
  case owes =>
    refine .cons (owes_value fun q u lh => ⟨wants_free rfl, .agg #[.int .i64 i, .int .i64 f, .int .i64 o, .int .i64 m, .int .i64 c, .int .i64 s, .int .i64 v], by have e3 : q.tmps.getD 3 undef = .pointer (some ⟨w.heap.size, 0, none⟩) := lh.old 3 rfl; obtain ⟨p0, p1, p2, p3, p4, p5, p6⟩ := A0.out.below lh.below; simp only [P7.id, P7.fr, P7.to, P7.am, P7.cl, P7.st, P7.ti, Nat.zero_add] at p0 p1 p2 p3 p4 p5 p6; simp [execOp, Act.eval, e3, p0, p1, p2, p3, p4, p5, p6, go_sem], rfl⟩) ?_
    refine .cons (owes_move (.tmp 1) (.inl rfl) fun q u lh => ⟨wants_free rfl, lh.old 1 rfl⟩) ?_
    refine .cons (owes_call 10 Try.func10 (by kernel_rfl) (by kernel_rfl) [.tmp 23, .tmp 24] #[26, 2] rfl fun q u lh => ⟨wants_free rfl, by have e23 : q.tmps.getD 23 undef = .agg #[.int .i64 i, .int .i64 f, .int .i64 o, .int .i64 m, .int .i64 c, .int .i64 s, .int .i64 v] := lh.dep 0 rfl; have e24 : q.tmps.getD 24 undef = .int .i64 t := lh.dep 1 rfl; show Calls Try.prog 10 #[q.tmps.getD 23 undef, q.tmps.getD 24 undef] u _; rw [e23, e24]; exact bool_fact (R1 _)⟩) ?_
    refine .cons (owes_value fun q u lh => ⟨wants_free rfl, .agg #[.int .i64 i, .int .i64 f, .int .i64 o, .int .i64 m, .int .i64 c, .int .i64 s, .int .i64 v], by have e3 : q.tmps.getD 3 undef = .pointer (some ⟨w.heap.size, 0, none⟩) := lh.old 3 rfl; obtain ⟨p0, p1, p2, p3, p4, p5, p6⟩ := A0.out.below lh.below; simp only [P7.id, P7.fr, P7.to, P7.am, P7.cl, P7.st, P7.ti, Nat.zero_add] at p0 p1 p2 p3 p4 p5 p6; simp [execOp, Act.eval, e3, p0, p1, p2, p3, p4, p5, p6, go_sem], rfl⟩) ?_
    refine .cons (owes_move (.tmp 1) (.inl rfl) fun q u lh => ⟨wants_free rfl, lh.old 1 rfl⟩) ?_
    refine .cons (owes_call 12 Try.func12 (by kernel_rfl) (by kernel_rfl) [.tmp 26, .tmp 27] #[26, 2] rfl fun q u lh => ⟨wants_free rfl, by have e26 : q.tmps.getD 26 undef = .agg #[.int .i64 i, .int .i64 f, .int .i64 o, .int .i64 m, .int .i64 c, .int .i64 s, .int .i64 v] := lh.dep 3 rfl; have e27 : q.tmps.getD 27 undef = .int .i64 t := lh.dep 4 rfl; show Calls Try.prog 12 #[q.tmps.getD 26 undef, q.tmps.getD 27 undef] u _; rw [e26, e27]; exact bool_fact (L1 _)⟩) ?_
    refine .cons (owes_move (.tmp 25) (.inr rfl) fun q u lh => ⟨wants_free rfl, lh.dep 2 rfl⟩) ?_
    refine .cons (owes_move (.tmp 28) (.inr rfl) fun q u lh => ⟨wants_free rfl, lh.dep 5 rfl⟩) ?_
    exact .nil _
  intro q u hb hsz hdf hold hfact
  have B1 : Hid (Below w.heap.size w u) := (box_below _ _).trans (hb.mono (box_below _ _).size)
  have A1 : Hid (At7 u w.heap.size 0 (i, f, o, m, c, s, v)) := A0.out.below hb
  obtain ⟨p0, p1, p2, p3, p4, p5, p6⟩ := A1.out
  simp only [P7.id, P7.fr, P7.to, P7.am, P7.cl, P7.st, P7.ti, Nat.zero_add] at p0 p1 p2 p3 p4 p5 p6
  obtain rfl := frame_puts hsz hdf [23, 24, 25, 26, 27, 28, 7, 8] hold [(23, Value.agg #[.int .i64 i, .int .i64 f, .int .i64 o, .int .i64 m, .int .i64 c, .int .i64 s, .int .i64 v]), (24, Value.int .i64 t), (25, Value.bool true), (26, Value.agg #[.int .i64 i, .int .i64 f, .int .i64 o, .int .i64 m, .int .i64 c, .int .i64 s, .int .i64 v]), (27, Value.int .i64 t), (28, Value.bool false), (7, Value.bool true), (8, Value.bool false)] ⟨hfact 0 (by decide), hfact 1 (by decide), hfact 2 (by decide), hfact 3 (by decide), hfact 4 (by decide), hfact 5 (by decide), hfact 6 (by decide), hfact 7 (by decide), trivial⟩ rfl
  clear hsz hdf hold hfact
  simp only [puts, Act.put, List.setIfInBounds_toArray, List.set_cons_zero, List.set_cons_succ]
  clear hb R1 L1 A0
  go_wp2_with fail
  go_at_call 14
  refine (known11 _).mono ?_
  rintro e w9 ⟨rfl, hb9⟩
  have B9 : Hid (Below w.heap.size w w9) := B1.out.trans (hb9.mono B1.out.size)
  clear hb9
  go_wp2
  go_ret
  exact ⟨rfl, B9.out⟩

set_option maxHeartbeats 4000000 in
theorem payTimes_late (i f o m c s v t k : Int) (w : World) (h1 : 0 ≤ k) (h2 : k ≤ 1099511627776) (h3 : t ≤ 1099511627776) (h4 : -1099511627776 ≤ t) (ha : readyB s v t = false) (hl : lateB v t = true) : Calls Try.prog 4 #[.agg #[.int .i64 i, .int .i64 f, .int .i64 o, .int .i64 m, .int .i64 c, .int .i64 s, .int .i64 v], .int .i64 t, .int .i64 k] w fun e w' => e = .returned (.bool true) ∧ Below w.heap.size w w' := by
  have R1 := ready_any i f o m c s v t
  have L1 := late_any i f o m c s v t
  rw [ha] at R1
  rw [hl] at L1
  have L2 := late_any i f o m c s v (t + k)
  rw [late_more h1 hl] at L2
  have A0 : Hid (At7 (w.alloc (.cells #[.int .i64 i, .int .i64 f, .int .i64 o, .int .i64 m, .int .i64 c, .int .i64 s, .int .i64 v] 26)) w.heap.size 0 (i, f, o, m, c, s, v)) := At7.new w (i, f, o, m, c, s, v) _ _
  clear ha hl
  go_enter Try.func4, Try.ntmps4
  go_wp2
  refine region_owes (L := [Fact.is (.agg #[.int .i64 i, .int .i64 f, .int .i64 o, .int .i64 m, .int .i64 c, .int .i64 s, .int .i64 v]),
    Fact.is (.int .i64 t),
    Fact.is (.bool false),
    Fact.is (.agg #[.int .i64 i, .int .i64 f, .int .i64 o, .int .i64 m, .int .i64 c, .int .i64 s, .int .i64 v]),
    Fact.is (.int .i64 t),
    Fact.is (.bool true),
    Fact.is (.bool false),
    Fact.is (.bool true)])
    (T := [23, 24, 25, 26, 27, 28, 7, 8]) (by kernel_rfl) (by kernel_rfl) rfl ?owes ?_
  case owes =>
    refine .cons (owes_value fun q u lh => ⟨wants_free rfl, .agg #[.int .i64 i, .int .i64 f, .int .i64 o, .int .i64 m, .int .i64 c, .int .i64 s, .int .i64 v], by have e3 : q.tmps.getD 3 undef = .pointer (some ⟨w.heap.size, 0, none⟩) := lh.old 3 rfl; obtain ⟨p0, p1, p2, p3, p4, p5, p6⟩ := A0.out.below lh.below; simp only [P7.id, P7.fr, P7.to, P7.am, P7.cl, P7.st, P7.ti, Nat.zero_add] at p0 p1 p2 p3 p4 p5 p6; simp [execOp, Act.eval, e3, p0, p1, p2, p3, p4, p5, p6, go_sem], rfl⟩) ?_
    refine .cons (owes_move (.tmp 1) (.inl rfl) fun q u lh => ⟨wants_free rfl, lh.old 1 rfl⟩) ?_
    refine .cons (owes_call 10 Try.func10 (by kernel_rfl) (by kernel_rfl) [.tmp 23, .tmp 24] #[26, 2] rfl fun q u lh => ⟨wants_free rfl, by have e23 : q.tmps.getD 23 undef = .agg #[.int .i64 i, .int .i64 f, .int .i64 o, .int .i64 m, .int .i64 c, .int .i64 s, .int .i64 v] := lh.dep 0 rfl; have e24 : q.tmps.getD 24 undef = .int .i64 t := lh.dep 1 rfl; show Calls Try.prog 10 #[q.tmps.getD 23 undef, q.tmps.getD 24 undef] u _; rw [e23, e24]; exact bool_fact (R1 _)⟩) ?_
    refine .cons (owes_value fun q u lh => ⟨wants_free rfl, .agg #[.int .i64 i, .int .i64 f, .int .i64 o, .int .i64 m, .int .i64 c, .int .i64 s, .int .i64 v], by have e3 : q.tmps.getD 3 undef = .pointer (some ⟨w.heap.size, 0, none⟩) := lh.old 3 rfl; obtain ⟨p0, p1, p2, p3, p4, p5, p6⟩ := A0.out.below lh.below; simp only [P7.id, P7.fr, P7.to, P7.am, P7.cl, P7.st, P7.ti, Nat.zero_add] at p0 p1 p2 p3 p4 p5 p6; simp [execOp, Act.eval, e3, p0, p1, p2, p3, p4, p5, p6, go_sem], rfl⟩) ?_
    refine .cons (owes_move (.tmp 1) (.inl rfl) fun q u lh => ⟨wants_free rfl, lh.old 1 rfl⟩) ?_
    refine .cons (owes_call 12 Try.func12 (by kernel_rfl) (by kernel_rfl) [.tmp 26, .tmp 27] #[26, 2] rfl fun q u lh => ⟨wants_free rfl, by have e26 : q.tmps.getD 26 undef = .agg #[.int .i64 i, .int .i64 f, .int .i64 o, .int .i64 m, .int .i64 c, .int .i64 s, .int .i64 v] := lh.dep 3 rfl; have e27 : q.tmps.getD 27 undef = .int .i64 t := lh.dep 4 rfl; show Calls Try.prog 12 #[q.tmps.getD 26 undef, q.tmps.getD 27 undef] u _; rw [e26, e27]; exact bool_fact (L1 _)⟩) ?_
    refine .cons (owes_move (.tmp 25) (.inr rfl) fun q u lh => ⟨wants_free rfl, lh.dep 2 rfl⟩) ?_
    refine .cons (owes_move (.tmp 28) (.inr rfl) fun q u lh => ⟨wants_free rfl, lh.dep 5 rfl⟩) ?_
    exact .nil _
  intro q u hb hsz hdf hold hfact
  have B1 : Hid (Below w.heap.size w u) := (box_below _ _).trans (hb.mono (box_below _ _).size)
  have A1 : Hid (At7 u w.heap.size 0 (i, f, o, m, c, s, v)) := A0.out.below hb
  obtain ⟨p0, p1, p2, p3, p4, p5, p6⟩ := A1.out
  simp only [P7.id, P7.fr, P7.to, P7.am, P7.cl, P7.st, P7.ti, Nat.zero_add] at p0 p1 p2 p3 p4 p5 p6
  obtain rfl := frame_puts hsz hdf [23, 24, 25, 26, 27, 28, 7, 8] hold [(23, Value.agg #[.int .i64 i, .int .i64 f, .int .i64 o, .int .i64 m, .int .i64 c, .int .i64 s, .int .i64 v]), (24, Value.int .i64 t), (25, Value.bool false), (26, Value.agg #[.int .i64 i, .int .i64 f, .int .i64 o, .int .i64 m, .int .i64 c, .int .i64 s, .int .i64 v]), (27, Value.int .i64 t), (28, Value.bool true), (7, Value.bool false), (8, Value.bool true)] ⟨hfact 0 (by decide), hfact 1 (by decide), hfact 2 (by decide), hfact 3 (by decide), hfact 4 (by decide), hfact 5 (by decide), hfact 6 (by decide), hfact 7 (by decide), trivial⟩ rfl
  clear hsz hdf hold hfact
  simp only [puts, Act.put, List.setIfInBounds_toArray, List.set_cons_zero, List.set_cons_succ]
  clear hb R1 L1 A0
  go_wp2_with fail
  go_at_call 12
  refine (L2 _).mono ?_
  rintro e w2 ⟨rfl, hb2⟩
  have B2 : Hid (Below w.heap.size w w2) := B1.out.trans (hb2.mono B1.out.size)
  clear hb2 L2 p0 p1 p2 p3 p4 p5 p6
  go_wp2_with fail
  go_at_call 14
  refine (known11 _).mono ?_
  rintro e w9 ⟨rfl, hb9⟩
  have B9 : Hid (Below w.heap.size w w9) := B2.out.trans (hb9.mono B2.out.size)
  clear hb9
  go_wp2
  go_ret
  exact ⟨rfl, B9.out⟩

set_option maxHeartbeats 4000000 in
theorem payTimes_yet (i f o m c s v t k : Int) (w : World) (h1 : 0 ≤ k) (h2 : k ≤ 1099511627776) (h3 : t ≤ 1099511627776) (h4 : -1099511627776 ≤ t) (h5 : t < s) (ha : readyB s v t = false) (hl : lateB v t = false) : Calls Try.prog 4 #[.agg #[.int .i64 i, .int .i64 f, .int .i64 o, .int .i64 m, .int .i64 c, .int .i64 s, .int .i64 v], .int .i64 t, .int .i64 k] w fun e w' => e = .returned (.bool true) ∧ Below w.heap.size w w' := by
  have R1 := ready_any i f o m c s v t
  have L1 := late_any i f o m c s v t
  rw [ha] at R1
  rw [hl] at L1
  have A0 : Hid (At7 (w.alloc (.cells #[.int .i64 i, .int .i64 f, .int .i64 o, .int .i64 m, .int .i64 c, .int .i64 s, .int .i64 v] 26)) w.heap.size 0 (i, f, o, m, c, s, v)) := At7.new w (i, f, o, m, c, s, v) _ _
  clear ha hl
  go_enter Try.func4, Try.ntmps4
  go_wp2
  refine region_owes (L := [Fact.is (.agg #[.int .i64 i, .int .i64 f, .int .i64 o, .int .i64 m, .int .i64 c, .int .i64 s, .int .i64 v]),
    Fact.is (.int .i64 t),
    Fact.is (.bool false),
    Fact.is (.agg #[.int .i64 i, .int .i64 f, .int .i64 o, .int .i64 m, .int .i64 c, .int .i64 s, .int .i64 v]),
    Fact.is (.int .i64 t),
    Fact.is (.bool false),
    Fact.is (.bool false),
    Fact.is (.bool false)])
    (T := [23, 24, 25, 26, 27, 28, 7, 8]) (by kernel_rfl) (by kernel_rfl) rfl ?owes ?_
  case owes =>
    refine .cons (owes_value fun q u lh => ⟨wants_free rfl, .agg #[.int .i64 i, .int .i64 f, .int .i64 o, .int .i64 m, .int .i64 c, .int .i64 s, .int .i64 v], by have e3 : q.tmps.getD 3 undef = .pointer (some ⟨w.heap.size, 0, none⟩) := lh.old 3 rfl; obtain ⟨p0, p1, p2, p3, p4, p5, p6⟩ := A0.out.below lh.below; simp only [P7.id, P7.fr, P7.to, P7.am, P7.cl, P7.st, P7.ti, Nat.zero_add] at p0 p1 p2 p3 p4 p5 p6; simp [execOp, Act.eval, e3, p0, p1, p2, p3, p4, p5, p6, go_sem], rfl⟩) ?_
    refine .cons (owes_move (.tmp 1) (.inl rfl) fun q u lh => ⟨wants_free rfl, lh.old 1 rfl⟩) ?_
    refine .cons (owes_call 10 Try.func10 (by kernel_rfl) (by kernel_rfl) [.tmp 23, .tmp 24] #[26, 2] rfl fun q u lh => ⟨wants_free rfl, by have e23 : q.tmps.getD 23 undef = .agg #[.int .i64 i, .int .i64 f, .int .i64 o, .int .i64 m, .int .i64 c, .int .i64 s, .int .i64 v] := lh.dep 0 rfl; have e24 : q.tmps.getD 24 undef = .int .i64 t := lh.dep 1 rfl; show Calls Try.prog 10 #[q.tmps.getD 23 undef, q.tmps.getD 24 undef] u _; rw [e23, e24]; exact bool_fact (R1 _)⟩) ?_
    refine .cons (owes_value fun q u lh => ⟨wants_free rfl, .agg #[.int .i64 i, .int .i64 f, .int .i64 o, .int .i64 m, .int .i64 c, .int .i64 s, .int .i64 v], by have e3 : q.tmps.getD 3 undef = .pointer (some ⟨w.heap.size, 0, none⟩) := lh.old 3 rfl; obtain ⟨p0, p1, p2, p3, p4, p5, p6⟩ := A0.out.below lh.below; simp only [P7.id, P7.fr, P7.to, P7.am, P7.cl, P7.st, P7.ti, Nat.zero_add] at p0 p1 p2 p3 p4 p5 p6; simp [execOp, Act.eval, e3, p0, p1, p2, p3, p4, p5, p6, go_sem], rfl⟩) ?_
    refine .cons (owes_move (.tmp 1) (.inl rfl) fun q u lh => ⟨wants_free rfl, lh.old 1 rfl⟩) ?_
    refine .cons (owes_call 12 Try.func12 (by kernel_rfl) (by kernel_rfl) [.tmp 26, .tmp 27] #[26, 2] rfl fun q u lh => ⟨wants_free rfl, by have e26 : q.tmps.getD 26 undef = .agg #[.int .i64 i, .int .i64 f, .int .i64 o, .int .i64 m, .int .i64 c, .int .i64 s, .int .i64 v] := lh.dep 3 rfl; have e27 : q.tmps.getD 27 undef = .int .i64 t := lh.dep 4 rfl; show Calls Try.prog 12 #[q.tmps.getD 26 undef, q.tmps.getD 27 undef] u _; rw [e26, e27]; exact bool_fact (L1 _)⟩) ?_
    refine .cons (owes_move (.tmp 25) (.inr rfl) fun q u lh => ⟨wants_free rfl, lh.dep 2 rfl⟩) ?_
    refine .cons (owes_move (.tmp 28) (.inr rfl) fun q u lh => ⟨wants_free rfl, lh.dep 5 rfl⟩) ?_
    exact .nil _
  intro q u hb hsz hdf hold hfact
  have B1 : Hid (Below w.heap.size w u) := (box_below _ _).trans (hb.mono (box_below _ _).size)
  have A1 : Hid (At7 u w.heap.size 0 (i, f, o, m, c, s, v)) := A0.out.below hb
  obtain ⟨p0, p1, p2, p3, p4, p5, p6⟩ := A1.out
  simp only [P7.id, P7.fr, P7.to, P7.am, P7.cl, P7.st, P7.ti, Nat.zero_add] at p0 p1 p2 p3 p4 p5 p6
  obtain rfl := frame_puts hsz hdf [23, 24, 25, 26, 27, 28, 7, 8] hold [(23, Value.agg #[.int .i64 i, .int .i64 f, .int .i64 o, .int .i64 m, .int .i64 c, .int .i64 s, .int .i64 v]), (24, Value.int .i64 t), (25, Value.bool false), (26, Value.agg #[.int .i64 i, .int .i64 f, .int .i64 o, .int .i64 m, .int .i64 c, .int .i64 s, .int .i64 v]), (27, Value.int .i64 t), (28, Value.bool false), (7, Value.bool false), (8, Value.bool false)] ⟨hfact 0 (by decide), hfact 1 (by decide), hfact 2 (by decide), hfact 3 (by decide), hfact 4 (by decide), hfact 5 (by decide), hfact 6 (by decide), hfact 7 (by decide), trivial⟩ rfl
  clear hsz hdf hold hfact
  simp only [puts, Act.put, List.setIfInBounds_toArray, List.set_cons_zero, List.set_cons_succ]
  clear hb R1 L1 A0
  go_wp2_with fail
  go_at_call 14
  refine (known11 _).mono ?_
  rintro e w9 ⟨rfl, hb9⟩
  have B9 : Hid (Below w.heap.size w w9) := B1.out.trans (hb9.mono B1.out.size)
  clear hb9
  go_wp2
  go_ret
  exact ⟨rfl, B9.out⟩

theorem payTimes (i f o m c s v : Int) (t k : Int) (w : World) (h0 : Wf7 (i, f, o, m, c, s, v)) (w1 : (Lit.int .i64 t).wf = true) (w2 : (Lit.int .i64 k).wf = true) : Calls Try.prog 4 #[.agg #[.int .i64 i, .int .i64 f, .int .i64 o, .int .i64 m, .int .i64 c, .int .i64 s, .int .i64 v], .int .i64 t, .int .i64 k] w fun e w' => e = .returned (.bool true) ∧ Below w.heap.size w w' := by
  by_cases h : k < 0 ∨ 1099511627776 < k ∨ 1099511627776 < t ∨ t < -1099511627776
  · exact payTimes_out i f o m c s v t k w h
  have h1 : 0 ≤ k := by omega
  have h2 : k ≤ 1099511627776 := by omega
  have h3 : t ≤ 1099511627776 := by omega
  have h4 : -1099511627776 ≤ t := by omega
  rcases Int.lt_or_le t s with h5 | h5
  · cases hl : lateB v t
    · exact payTimes_yet i f o m c s v t k w h1 h2 h3 h4 h5 (times_yet h5) hl
    · exact payTimes_late i f o m c s v t k w h1 h2 h3 h4 (times_yet h5) hl
  · rcases times_three (u := v) h5 with ⟨ha, hl⟩ | ⟨ha, hl⟩
    · exact payTimes_ready i f o m c s v t k w h1 h2 h3 h4 ha hl
    · exact payTimes_late i f o m c s v t k w h1 h2 h3 h4 ha hl

end Walk
end Go.Proofs.Ytddikbkodinmiaa
