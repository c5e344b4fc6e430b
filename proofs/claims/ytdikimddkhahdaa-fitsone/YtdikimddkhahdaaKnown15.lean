/-
  girolaw15.known: six, and three back.
-/
import Derived.Test.YtdikimddkhahdaaFitsRefs
import Derived.Test.YtdikimddkhahdaaSomeGood
import Derived.Test.YtdikimddkhahdaaRowRefs
namespace Go.Proofs.Ytdikimddkhahdaa
open Go.RowKit
set_option linter.unusedVariables false
set_option linter.unusedSimpArgs false

theorem ints_lit (w : World) (k : Nat) (hk : k ≤ 1000000) : IGood (w.alloc (.cells #[.int .i64 k] 3)) (some ⟨w.heap.size, 0, none⟩) 1 1 [k] := by
  refine ⟨⟨rfl, intsL_wf (fun i hi => by obtain rfl := List.mem_singleton.1 hi; exact hk), .inr ⟨_, _, rfl, fun i hi => ?_⟩⟩, rfl, Nat.le_refl _, by omega, fun h => by simp at h⟩
  have hi0 : i = 0 := by have : (intsL [k]).length = 1 := rfl; omega
  subst hi0
  rw [cell_new]; rfl
set_option maxHeartbeats 4000000 in
set_option maxRecDepth 100000 in
theorem known15 (w : World) : Calls Try.prog 18 #[] w fun e w' => e = .returned (.bool true) ∧ Below w.heap.size w w' := by
  have S := some_any (some ⟨w.heap.size, 0, none⟩) 1 1 [5] 0 (w.alloc (.cells #[.int .i64 5] 2)) (Sl.new .i64 w 2 (0, 0) [5] (by decide)) (by decide)
  obtain ⟨bk, hbk⟩ : ∃ bk, someK [5] (bitB 0 1) (bitB 0 2) (bitB 0 4) = bk := ⟨_, rfl⟩
  rw [hbk] at S
  have HG : Hid (Good bk) := by rw [← hbk]; exact good_some _ _ _ _
  have F1 : Hid (fitsB bk [(1, 0, 1, 6, 3, 0, 0), (2, 1, 0, 3, 3, 0, 0)] = true) := by rw [← hbk]; show _ = _; decide +kernel
  have F2 : Hid (fitsB bk [(1, 0, 1, 6, 3, 0, 0)] = false) := by rw [← hbk]; show _ = _; decide +kernel
  have F3 : Hid ((if allB bk [(1, 0, 1, 6, 3, 0, 0)] then shortL bk [(1, 0, 1, 6, 3, 0, 0)] else []) = [0]) := by rw [← hbk]; show _ = _; decide +kernel
  have F4 : Hid (fitsB bk [] = true) := by rw [← hbk]; show _ = _; decide +kernel
  have F5 : Hid (mayB bk.A.length (1, 0, 1, 6, 3, 0, 0) = true) := by rw [← hbk]; show _ = _; decide +kernel
  clear hbk
  go_enter Try.func18, Try.ntmps18
  go_wp2_with fail
  go_at_call 19
  refine S.mono ?_
  rintro e w1 ⟨y, rfl, nb, bel⟩
  clear S
  have B1 : Hid (Below w.heap.size w w1) := (box_below _ _).trans (bel.mono (by simp))
  have N1 : Hid (Bk w1 y bk) := nb.bk
  clear nb bel
  obtain ⟨bA, b1, b2, bB, b3, b4, bM, b5, b6, bP, b7, b8⟩ := y
  obtain ⟨w2, hw2⟩ : ∃ w2, w2 = ((w1.alloc (.cells #[.slice bA b1 b2, .slice bB b3 b4, .slice bM b5 b6, .slice bP b7 b8] 26)).alloc (.cells #[.int .i64 1, .int .i64 0, .int .i64 1, .int .i64 6, .int .i64 3, .int .i64 0, .int .i64 0] 31)).alloc (.cells #[.int .i64 2, .int .i64 1, .int .i64 0, .int .i64 3, .int .i64 3, .int .i64 0, .int .i64 0] 31) := ⟨_, rfl⟩
  have bb : Below w1.heap.size w1 w2 := by rw [hw2]; exact ((box_below _ _).alloc (box_below _ _).size _).alloc ((box_below _ _).alloc (box_below _ _).size _).size _
  have B2 : Hid (Below w.heap.size w w2) := B1.out.trans (bb.mono B1.out.size)
  have X2 : Hid (Box4 w2 w1.heap.size ⟨bA, b1, b2, bB, b3, b4, bM, b5, b6, bP, b7, b8⟩) := by rw [hw2]; exact ((Box4.new w1 ⟨bA, b1, b2, bB, b3, b4, bM, b5, b6, bP, b7, b8⟩ _ _).below (box_below _ _)).below (box_below _ _)
  have P2 : Hid (At7 w2 (w1.heap.size + 1) 0 (1, 0, 1, 6, 3, 0, 0)) := by
    rw [hw2]
    have := At7.new (w1.alloc (.cells #[.slice bA b1 b2, .slice bB b3 b4, .slice bM b5 b6, .slice bP b7 b8] 26)) (1, 0, 1, 6, 3, 0, 0) 31 (0, 0)
    rw [size_alloc] at this
    exact this.below (box_below _ _)
  have Q2 : Hid (At7 w2 (w1.heap.size + 1 + 1) 0 (2, 1, 0, 3, 3, 0, 0)) := by
    rw [hw2]
    have := At7.new ((w1.alloc (.cells #[.slice bA b1 b2, .slice bB b3 b4, .slice bM b5 b6, .slice bP b7 b8] 26)).alloc (.cells #[.int .i64 1, .int .i64 0, .int .i64 1, .int .i64 6, .int .i64 3, .int .i64 0, .int .i64 0] 31)) (2, 1, 0, 3, 3, 0, 0) 31 (0, 0)
    rw [size_alloc, size_alloc] at this
    exact this
  have N2 : Hid (Bk w2 ⟨bA, b1, b2, bB, b3, b4, bM, b5, b6, bP, b7, b8⟩ bk) := N1.out.below bb
  clear bb N1 B1
  go_upto_region 3 with fail
  rw [← hw2]
  clear hw2
  obtain ⟨p0, p1, p2, p3⟩ := X2.out.below (Below.refl _ _)
  replace p0 : w2.cell? ⟨w1.heap.size, 0, none⟩ = some (.slice bA b1 b2) := p0
  replace p1 : w2.cell? ⟨w1.heap.size, 1, none⟩ = some (.slice bB b3 b4) := p1
  replace p2 : w2.cell? ⟨w1.heap.size, 2, none⟩ = some (.slice bM b5 b6) := p2
  replace p3 : w2.cell? ⟨w1.heap.size, 3, none⟩ = some (.slice bP b7 b8) := p3
  obtain ⟨y0, y1, y2, y3, y4, y5, y6⟩ := P2.out.below (Below.refl _ _)
  simp only [P7.id, P7.fr, P7.to, P7.am, P7.cl, P7.st, P7.ti, Nat.zero_add] at y0 y1 y2 y3 y4 y5 y6
  obtain ⟨q0, q1, q2, q3, q4, q5, q6⟩ := Q2.out.below (Below.refl _ _)
  simp only [P7.id, P7.fr, P7.to, P7.am, P7.cl, P7.st, P7.ti, Nat.zero_add] at q0 q1 q2 q3 q4 q5 q6
  have C1 := fitsFits_any ⟨bA, b1, b2, bB, b3, b4, bM, b5, b6, bP, b7, b8⟩ bk (some ⟨w2.heap.size, 0, none⟩) 2 2 [(1, 0, 1, 6, 3, 0, 0), (2, 1, 0, 3, 3, 0, 0)] _ (N2.out.below (box_below w2 _)) HG.out (PGood.lit2 w2 (1, 0, 1, 6, 3, 0, 0) (2, 1, 0, 3, 3, 0, 0))
  rw [F1.out] at C1
  go_wp2_with fail
  go_at_call 12
  refine C1.mono ?_
  rintro e w3 ⟨rfl, hb⟩
  have B3 : Hid (Below w2.heap.size w2 w3) := (box_below _ _).trans (hb.mono (by rw [size_alloc]; omega))
  clear hb C1 p0 p1 p2 p3 y0 y1 y2 y3 y4 y5 y6 q0 q1 q2 q3 q4 q5 q6
  obtain ⟨p0, p1, p2, p3⟩ := X2.out.below B3.out
  replace p0 : w3.cell? ⟨w1.heap.size, 0, none⟩ = some (.slice bA b1 b2) := p0
  replace p1 : w3.cell? ⟨w1.heap.size, 1, none⟩ = some (.slice bB b3 b4) := p1
  replace p2 : w3.cell? ⟨w1.heap.size, 2, none⟩ = some (.slice bM b5 b6) := p2
  replace p3 : w3.cell? ⟨w1.heap.size, 3, none⟩ = some (.slice bP b7 b8) := p3
  obtain ⟨y0, y1, y2, y3, y4, y5, y6⟩ := P2.out.below B3.out
  simp only [P7.id, P7.fr, P7.to, P7.am, P7.cl, P7.st, P7.ti, Nat.zero_add] at y0 y1 y2 y3 y4 y5 y6
  have C2 := fitsFits_any ⟨bA, b1, b2, bB, b3, b4, bM, b5, b6, bP, b7, b8⟩ bk (some ⟨w3.heap.size, 0, none⟩) 1 1 [(1, 0, 1, 6, 3, 0, 0)] _ ((N2.out.below B3.out).below (box_below w3 _)) HG.out (PGood.lit1 w3 (1, 0, 1, 6, 3, 0, 0))
  rw [F2.out] at C2
  go_wp2_with fail
  go_at_call 12
  refine C2.mono ?_
  rintro e w4 ⟨rfl, hb⟩
  have B4 : Hid (Below w2.heap.size w2 w4) := (B3.out.alloc B3.out.size _).trans (hb.mono (by rw [size_alloc]; have := B3.out.size; omega))
  clear hb C2 B3 p0 p1 p2 p3 y0 y1 y2 y3 y4 y5 y6
  obtain ⟨p0, p1, p2, p3⟩ := X2.out.below B4.out
  replace p0 : w4.cell? ⟨w1.heap.size, 0, none⟩ = some (.slice bA b1 b2) := p0
  replace p1 : w4.cell? ⟨w1.heap.size, 1, none⟩ = some (.slice bB b3 b4) := p1
  replace p2 : w4.cell? ⟨w1.heap.size, 2, none⟩ = some (.slice bM b5 b6) := p2
  replace p3 : w4.cell? ⟨w1.heap.size, 3, none⟩ = some (.slice bP b7 b8) := p3
  obtain ⟨y0, y1, y2, y3, y4, y5, y6⟩ := P2.out.below B4.out
  simp only [P7.id, P7.fr, P7.to, P7.am, P7.cl, P7.st, P7.ti, Nat.zero_add] at y0 y1 y2 y3 y4 y5 y6
  have C3 := fitsShort_any ⟨bA, b1, b2, bB, b3, b4, bM, b5, b6, bP, b7, b8⟩ bk (some ⟨w4.heap.size, 0, none⟩) 1 1 [(1, 0, 1, 6, 3, 0, 0)] _ ((N2.out.below B4.out).below (box_below w4 _)) HG.out (PGood.lit1 w4 (1, 0, 1, 6, 3, 0, 0))
  rw [F3.out] at C3
  go_wp2_with fail
  go_at_call 16
  refine C3.mono ?_
  rintro e w5 ⟨a5, c5, rfl, g5, hb⟩
  have B5 : Hid (Below w2.heap.size w2 w5) := (B4.out.alloc B4.out.size _).trans (hb.mono (by rw [size_alloc]; have := B4.out.size; omega))
  have C4 := ints_any a5 (some ⟨w5.heap.size, 0, none⟩) 1 c5 1 1 [0] [0] _ (g5.below (box_below w5 _)) (ints_lit w5 0 (by omega))
  clear hb C3 B4 p0 p1 p2 p3 y0 y1 y2 y3 y4 y5 y6 g5
  go_wp2_with fail
  go_at_call 15
  refine C4.mono ?_
  rintro e w6 ⟨rfl, hb⟩
  have B6 : Hid (Below w2.heap.size w2 w6) := (B5.out.alloc B5.out.size _).trans (hb.mono (by rw [size_alloc]; have := B5.out.size; omega))
  have HI : intsB [0] [0] = true := rfl
  rw [HI]
  clear hb C4 B5 HI
  obtain ⟨p0, p1, p2, p3⟩ := X2.out.below B6.out
  replace p0 : w6.cell? ⟨w1.heap.size, 0, none⟩ = some (.slice bA b1 b2) := p0
  replace p1 : w6.cell? ⟨w1.heap.size, 1, none⟩ = some (.slice bB b3 b4) := p1
  replace p2 : w6.cell? ⟨w1.heap.size, 2, none⟩ = some (.slice bM b5 b6) := p2
  replace p3 : w6.cell? ⟨w1.heap.size, 3, none⟩ = some (.slice bP b7 b8) := p3
  obtain ⟨y0, y1, y2, y3, y4, y5, y6⟩ := P2.out.below B6.out
  simp only [P7.id, P7.fr, P7.to, P7.am, P7.cl, P7.st, P7.ti, Nat.zero_add] at y0 y1 y2 y3 y4 y5 y6
  have C5 := fitsFits_any ⟨bA, b1, b2, bB, b3, b4, bM, b5, b6, bP, b7, b8⟩ bk none 0 0 [] w6 (N2.out.below B6.out) HG.out (PGood.nil _)
  rw [F4.out] at C5
  go_wp2_with fail
  go_at_call 12
  refine C5.mono ?_
  rintro e w7 ⟨rfl, hb⟩
  have B7 : Hid (Below w2.heap.size w2 w7) := B6.out.trans (hb.mono B6.out.size)
  clear hb C5 B6 p0 p1 p2 p3 y0 y1 y2 y3 y4 y5 y6
  obtain ⟨p0, p1, p2, p3⟩ := X2.out.below B7.out
  replace p0 : w7.cell? ⟨w1.heap.size, 0, none⟩ = some (.slice bA b1 b2) := p0
  replace p1 : w7.cell? ⟨w1.heap.size, 1, none⟩ = some (.slice bB b3 b4) := p1
  replace p2 : w7.cell? ⟨w1.heap.size, 2, none⟩ = some (.slice bM b5 b6) := p2
  replace p3 : w7.cell? ⟨w1.heap.size, 3, none⟩ = some (.slice bP b7 b8) := p3
  obtain ⟨y0, y1, y2, y3, y4, y5, y6⟩ := P2.out.below B7.out
  simp only [P7.id, P7.fr, P7.to, P7.am, P7.cl, P7.st, P7.ti, Nat.zero_add] at y0 y1 y2 y3 y4 y5 y6
  have C6 := fitsMay_any ⟨bA, b1, b2, bB, b3, b4, bM, b5, b6, bP, b7, b8⟩ (1, 0, 1, 6, 3, 0, 0) w7
  rw [show BA.nA ⟨bA, b1, b2, bB, b3, b4, bM, b5, b6, bP, b7, b8⟩ = bk.A.length from N2.out.acc.1, F5.out] at C6
  go_wp2_with fail
  go_at_call 10
  refine C6.mono ?_
  rintro e w8 ⟨rfl, hb⟩
  have B8 : Hid (Below w.heap.size w w8) := B2.out.trans ((B7.out.trans (hb.mono B7.out.size)).mono B2.out.size)
  clear hb C6 B7 p0 p1 p2 p3 y0 y1 y2 y3 y4 y5 y6
  go_wp2
  go_ret
  exact ⟨rfl, B8.out⟩

end Go.Proofs.Ytdikimddkhahdaa
