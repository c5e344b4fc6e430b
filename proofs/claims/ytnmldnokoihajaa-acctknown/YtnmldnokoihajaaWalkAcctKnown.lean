/-
  The walk of AcctKnown.
-/
import Derived.Test.YtnmldnokoihajaaAcctRef
import Derived.Test.YtnmldnokoihajaaKnown9
import Derived.Test.YtnmldnokoihajaaFactK
import Derived.Test.YtnmldnokoihajaaArgs
import Derived.Test.YtnmldnokoihajaaPlain
namespace Go.Proofs.Ytnmldnokoihajaa
open Go.RowKit
set_option linter.unusedVariables false
set_option linter.unusedSimpArgs false
namespace Walk

/-- The six accounts that may not be, where they were laid. -/
def Six (w : World) (g : Nat) : Prop := w.heap[g]? = some (.cells #[.int .i64 4611686018427387904, .int .i64 0, .int .i64 0, .int .i64 (-4611686018427387904), .int .i64 0, .int .i64 0, .int .i64 0, .int .i64 (-1), .int .i64 0, .int .i64 0, .int .i64 2305843009213693953, .int .i64 0, .int .i64 0, .int .i64 0, .int .i64 (-1), .int .i64 0, .int .i64 0, .int .i64 2305843009213693953] 23 (0, 0))
theorem Six.below {w w' : World} {g : Nat} (h : Six w g) (hg : g < w.heap.size) (hb : Below w.heap.size w w') : Six w' g := by unfold Six; rw [hb.block g hg]; exact h

set_option maxHeartbeats 8000000 in
theorem acctKnown (a0 : Int) (w0 : (Lit.int .i64 a0).wf = true) (w : World) : Calls Try.prog 6 #[.int .i64 a0] w fun e w' => e = .returned (.bool true) ∧ Below w.heap.size w w' := by
  have N : ∀ w, Calls Try.prog 10 #[.agg #[.int .i64 4611686018427387903, .int .i64 2305843009213693952, .int .i64 2305843009213693952], .int .i64 1] w (AccEnd w 4611686018427387903 2305843009213693952 2305843009213693952 8) := fun w => accIn_any 4611686018427387903 2305843009213693952 2305843009213693952 1 (by decide) (by decide) (by decide) w
  have O : ∀ w, Calls Try.prog 12 #[.agg #[.int .i64 (-4611686018427387903), .int .i64 0, .int .i64 0], .int .i64 1, .int .i64 1] w (AccEnd w (-4611686018427387903) 0 0 8) := fun w => accOut_any (-4611686018427387903) 0 0 1 1 (by decide) (by decide) (by decide) w
  have I : ∀ w, Calls Try.prog 8 #[.agg #[.int .i64 4611686018427387903, .int .i64 2305843009213693952, .int .i64 2305843009213693952]] w fun e w' => e = .returned (.bool true) ∧ Below w.heap.size w w' := fun w => acctIs_any 4611686018427387903 2305843009213693952 2305843009213693952 w
  have I0 : ∀ w, Calls Try.prog 8 #[.agg #[.int .i64 4611686018427387904, .int .i64 0, .int .i64 0]] w fun e w' => e = .returned (.bool false) ∧ Below w.heap.size w w' := fun w => acctIs_any 4611686018427387904 0 0 w
  have I1 : ∀ w, Calls Try.prog 8 #[.agg #[.int .i64 (-4611686018427387904), .int .i64 0, .int .i64 0]] w fun e w' => e = .returned (.bool false) ∧ Below w.heap.size w w' := fun w => acctIs_any (-4611686018427387904) 0 0 w
  have I2 : ∀ w, Calls Try.prog 8 #[.agg #[.int .i64 0, .int .i64 (-1), .int .i64 0]] w fun e w' => e = .returned (.bool false) ∧ Below w.heap.size w w' := fun w => acctIs_any 0 (-1) 0 w
  have I3 : ∀ w, Calls Try.prog 8 #[.agg #[.int .i64 0, .int .i64 2305843009213693953, .int .i64 0]] w fun e w' => e = .returned (.bool false) ∧ Below w.heap.size w w' := fun w => acctIs_any 0 2305843009213693953 0 w
  have I4 : ∀ w, Calls Try.prog 8 #[.agg #[.int .i64 0, .int .i64 0, .int .i64 (-1)]] w fun e w' => e = .returned (.bool false) ∧ Below w.heap.size w w' := fun w => acctIs_any 0 0 (-1) w
  have I5 : ∀ w, Calls Try.prog 8 #[.agg #[.int .i64 0, .int .i64 0, .int .i64 2305843009213693953]] w fun e w' => e = .returned (.bool false) ∧ Below w.heap.size w w' := fun w => acctIs_any 0 0 2305843009213693953 w
  clear w0
  go_enter Try.func6, Try.ntmps6
  go_wp2_with fail
  go_at_call 10
  refine (N _).mono ?_
  rintro e w1 ⟨rfl, hb1⟩
  have L1 : Hid (Six w1 w.heap.size) := by
    refine Six.below (w := w.alloc (.cells #[.int .i64 4611686018427387904, .int .i64 0, .int .i64 0, .int .i64 (-4611686018427387904), .int .i64 0, .int .i64 0, .int .i64 0, .int .i64 (-1), .int .i64 0, .int .i64 0, .int .i64 2305843009213693953, .int .i64 0, .int .i64 0, .int .i64 0, .int .i64 (-1), .int .i64 0, .int .i64 0, .int .i64 2305843009213693953] 23)) (heap_alloc_new w _) (by simp) (((box_below _ _)).trans (hb1.mono (by simp)))
  have A1 : Hid (At3 w1 (w.heap.size + 1) 4611686018427387903 2305843009213693952 2305843009213693952) := by
    have h := At3.new (w.alloc (.cells #[.int .i64 4611686018427387904, .int .i64 0, .int .i64 0, .int .i64 (-4611686018427387904), .int .i64 0, .int .i64 0, .int .i64 0, .int .i64 (-1), .int .i64 0, .int .i64 0, .int .i64 2305843009213693953, .int .i64 0, .int .i64 0, .int .i64 0, .int .i64 (-1), .int .i64 0, .int .i64 0, .int .i64 2305843009213693953] 23)) 4611686018427387903 2305843009213693952 2305843009213693952 23 (0, 0)
    rw [size_alloc] at h
    exact h.below hb1
  have B1 : Hid (Below w.heap.size w w1) := by
    have h : Below w.heap.size w ((w.alloc (.cells #[.int .i64 4611686018427387904, .int .i64 0, .int .i64 0, .int .i64 (-4611686018427387904), .int .i64 0, .int .i64 0, .int .i64 0, .int .i64 (-1), .int .i64 0, .int .i64 0, .int .i64 2305843009213693953, .int .i64 0, .int .i64 0, .int .i64 0, .int .i64 (-1), .int .i64 0, .int .i64 0, .int .i64 2305843009213693953] 23)).alloc (.cells #[.int .i64 4611686018427387903, .int .i64 2305843009213693952, .int .i64 2305843009213693952] 23)) := (box_below _ _).alloc (by simp) _
    exact h.trans (hb1.mono h.size)
  clear hb1 N
  go_wp2_with fail
  go_at_call 12
  refine (O _).mono ?_
  rintro e w2 ⟨rfl, hb2⟩
  have b12 : Below w1.heap.size w1 ((w1.alloc (.cells #[.int .i64 4611686018427387903, .int .i64 2305843009213693952, .int .i64 2305843009213693952] 23)).alloc (.cells #[.int .i64 (-4611686018427387903), .int .i64 0, .int .i64 0] 23)) := (box_below _ _).alloc (by simp) _
  have b1 : Below w1.heap.size w1 w2 := b12.trans (hb2.mono b12.size)
  have L2 : Hid (Six (w2.alloc (.cells #[.int .i64 (-4611686018427387903), .int .i64 0, .int .i64 0] 23)) w.heap.size) := L1.out.below (by have := A1.out.lt; omega) (b1.trans ((box_below _ _).mono b1.size))
  have A2 : Hid (At3 (w2.alloc (.cells #[.int .i64 (-4611686018427387903), .int .i64 0, .int .i64 0] 23)) (w.heap.size + 1) 4611686018427387903 2305843009213693952 2305843009213693952) := A1.out.below (b1.trans ((box_below _ _).mono b1.size))
  have X2 : Hid (At3 (w2.alloc (.cells #[.int .i64 (-4611686018427387903), .int .i64 0, .int .i64 0] 23)) w1.heap.size 4611686018427387903 2305843009213693952 2305843009213693952) := (((At3.new w1 4611686018427387903 2305843009213693952 2305843009213693952 _ _).below (box_below _ _)).below hb2).below (box_below _ _)
  have Y2 : Hid (At3 (w2.alloc (.cells #[.int .i64 (-4611686018427387903), .int .i64 0, .int .i64 0] 23)) (w1.heap.size + 1) (-4611686018427387903) 0 0) := by
    have h := At3.new (w1.alloc (.cells #[.int .i64 4611686018427387903, .int .i64 2305843009213693952, .int .i64 2305843009213693952] 23)) (-4611686018427387903) 0 0 23 (0, 0)
    rw [size_alloc] at h
    exact (h.below hb2).below (box_below _ _)
  have Z2 : Hid (At3 (w2.alloc (.cells #[.int .i64 (-4611686018427387903), .int .i64 0, .int .i64 0] 23)) w2.heap.size (-4611686018427387903) 0 0) := At3.new _ _ _ _ _ _
  have B2 : Hid (Below w.heap.size w (w2.alloc (.cells #[.int .i64 (-4611686018427387903), .int .i64 0, .int .i64 0] 23))) := (B1.out.trans (b1.mono B1.out.size)).alloc (B1.out.trans (b1.mono B1.out.size)).size _
  clear hb2 b12 b1 L1 A1 B1 O
  obtain ⟨p0, p1, p2⟩ := A2.out
  go_wp2_with fail
  go_at_call 8
  refine (I _).mono ?_
  rintro e w3 ⟨rfl, hb3⟩
  have L3 : Hid (Six w3 w.heap.size) := L2.out.below (by have := A2.out.lt; omega) hb3
  have B3 : Hid (Below w.heap.size w w3) := B2.out.trans (hb3.mono B2.out.size)
  have A3 := A2.out.below hb3
  have X3 := X2.out.below hb3
  have Y3 := Y2.out.below hb3
  have Z3 := Z2.out.below hb3
  clear hb3 L2 A2 X2 Y2 Z2 B2 p0 p1 p2 I
  obtain ⟨p0, p1, p2⟩ := A3
  obtain ⟨q0, q1, q2⟩ := X3
  obtain ⟨s0, s1, s2⟩ := Y3
  obtain ⟨t0, t1, t2⟩ := Z3
  rcases Int.lt_or_le a0 0 with h | h
  · go_wp2
    go_ret
    exact ⟨rfl, B3.out⟩
  rcases Int.lt_or_le a0 6 with k | k
  · have hc : ∀ i, i < 18 → w3.cell? ⟨w.heap.size, i, none⟩ = (#[.int .i64 4611686018427387904, .int .i64 0, .int .i64 0, .int .i64 (-4611686018427387904), .int .i64 0, .int .i64 0, .int .i64 0, .int .i64 (-1), .int .i64 0, .int .i64 0, .int .i64 2305843009213693953, .int .i64 0, .int .i64 0, .int .i64 0, .int .i64 (-1), .int .i64 0, .int .i64 0, .int .i64 2305843009213693953] : Array Value)[i]? := fun i _ => cell_of_row w3 _ i _ _ _ L3.out
    have hw : a0 = 0 ∨ a0 = 1 ∨ a0 = 2 ∨ a0 = 3 ∨ a0 = 4 ∨ a0 = 5 := by omega
    clear L3
    rcases hw with rfl | rfl | rfl | rfl | rfl | rfl
    · have c0 := hc 0 (by decide)
      have c1 := hc 1 (by decide)
      have c2 := hc 2 (by decide)
      clear hc
      simp only [List.getElem?_toArray, List.getElem?_cons_zero, List.getElem?_cons_succ] at c0 c1 c2
      go_wp2_with fail
      go_at_call 8
      refine (I0 _).mono ?_
      rintro e w4 ⟨rfl, hb4⟩
      have B4 : Hid (Below w.heap.size w w4) := B3.out.trans (hb4.mono B3.out.size)
      clear hb4 B3 p0 p1 p2 q0 q1 q2 s0 s1 s2 t0 t1 t2 c0 c1 c2
      go_wp2_with fail
      go_at_call 9
      refine (known9 _).mono ?_
      rintro e w5 ⟨rfl, hb5⟩
      have B5 : Hid (Below w.heap.size w w5) := B4.out.trans (hb5.mono B4.out.size)
      clear hb5 B4
      go_wp2
      go_ret
      exact ⟨rfl, B5.out⟩
    · have c0 := hc 3 (by decide)
      have c1 := hc 4 (by decide)
      have c2 := hc 5 (by decide)
      clear hc
      simp only [List.getElem?_toArray, List.getElem?_cons_zero, List.getElem?_cons_succ] at c0 c1 c2
      go_wp2_with fail
      go_at_call 8
      refine (I1 _).mono ?_
      rintro e w4 ⟨rfl, hb4⟩
      have B4 : Hid (Below w.heap.size w w4) := B3.out.trans (hb4.mono B3.out.size)
      clear hb4 B3 p0 p1 p2 q0 q1 q2 s0 s1 s2 t0 t1 t2 c0 c1 c2
      go_wp2_with fail
      go_at_call 9
      refine (known9 _).mono ?_
      rintro e w5 ⟨rfl, hb5⟩
      have B5 : Hid (Below w.heap.size w w5) := B4.out.trans (hb5.mono B4.out.size)
      clear hb5 B4
      go_wp2
      go_ret
      exact ⟨rfl, B5.out⟩
    · have c0 := hc 6 (by decide)
      have c1 := hc 7 (by decide)
      have c2 := hc 8 (by decide)
      clear hc
      simp only [List.getElem?_toArray, List.getElem?_cons_zero, List.getElem?_cons_succ] at c0 c1 c2
      go_wp2_with fail
      go_at_call 8
      refine (I2 _).mono ?_
      rintro e w4 ⟨rfl, hb4⟩
      have B4 : Hid (Below w.heap.size w w4) := B3.out.trans (hb4.mono B3.out.size)
      clear hb4 B3 p0 p1 p2 q0 q1 q2 s0 s1 s2 t0 t1 t2 c0 c1 c2
      go_wp2_with fail
      go_at_call 9
      refine (known9 _).mono ?_
      rintro e w5 ⟨rfl, hb5⟩
      have B5 : Hid (Below w.heap.size w w5) := B4.out.trans (hb5.mono B4.out.size)
      clear hb5 B4
      go_wp2
      go_ret
      exact ⟨rfl, B5.out⟩
    · have c0 := hc 9 (by decide)
      have c1 := hc 10 (by decide)
      have c2 := hc 11 (by decide)
      clear hc
      simp only [List.getElem?_toArray, List.getElem?_cons_zero, List.getElem?_cons_succ] at c0 c1 c2
      go_wp2_with fail
      go_at_call 8
      refine (I3 _).mono ?_
      rintro e w4 ⟨rfl, hb4⟩
      have B4 : Hid (Below w.heap.size w w4) := B3.out.trans (hb4.mono B3.out.size)
      clear hb4 B3 p0 p1 p2 q0 q1 q2 s0 s1 s2 t0 t1 t2 c0 c1 c2
      go_wp2_with fail
      go_at_call 9
      refine (known9 _).mono ?_
      rintro e w5 ⟨rfl, hb5⟩
      have B5 : Hid (Below w.heap.size w w5) := B4.out.trans (hb5.mono B4.out.size)
      clear hb5 B4
      go_wp2
      go_ret
      exact ⟨rfl, B5.out⟩
    · have c0 := hc 12 (by decide)
      have c1 := hc 13 (by decide)
      have c2 := hc 14 (by decide)
      clear hc
      simp only [List.getElem?_toArray, List.getElem?_cons_zero, List.getElem?_cons_succ] at c0 c1 c2
      go_wp2_with fail
      go_at_call 8
      refine (I4 _).mono ?_
      rintro e w4 ⟨rfl, hb4⟩
      have B4 : Hid (Below w.heap.size w w4) := B3.out.trans (hb4.mono B3.out.size)
      clear hb4 B3 p0 p1 p2 q0 q1 q2 s0 s1 s2 t0 t1 t2 c0 c1 c2
      go_wp2_with fail
      go_at_call 9
      refine (known9 _).mono ?_
      rintro e w5 ⟨rfl, hb5⟩
      have B5 : Hid (Below w.heap.size w w5) := B4.out.trans (hb5.mono B4.out.size)
      clear hb5 B4
      go_wp2
      go_ret
      exact ⟨rfl, B5.out⟩
    · have c0 := hc 15 (by decide)
      have c1 := hc 16 (by decide)
      have c2 := hc 17 (by decide)
      clear hc
      simp only [List.getElem?_toArray, List.getElem?_cons_zero, List.getElem?_cons_succ] at c0 c1 c2
      go_wp2_with fail
      go_at_call 8
      refine (I5 _).mono ?_
      rintro e w4 ⟨rfl, hb4⟩
      have B4 : Hid (Below w.heap.size w w4) := B3.out.trans (hb4.mono B3.out.size)
      clear hb4 B3 p0 p1 p2 q0 q1 q2 s0 s1 s2 t0 t1 t2 c0 c1 c2
      go_wp2_with fail
      go_at_call 9
      refine (known9 _).mono ?_
      rintro e w5 ⟨rfl, hb5⟩
      have B5 : Hid (Below w.heap.size w w5) := B4.out.trans (hb5.mono B4.out.size)
      clear hb5 B4
      go_wp2
      go_ret
      exact ⟨rfl, B5.out⟩
  · go_wp2
    go_ret
    exact ⟨rfl, B3.out⟩

end Walk
end Go.Proofs.Ytnmldnokoihajaa
