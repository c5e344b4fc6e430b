/-
  girolaw12.known.
-/
import Derived.Test.YtadnohkgbggoiaaIdsAdd
import Derived.Test.YtadnohkgbggoiaaIdsIs
import Derived.Test.YtadnohkgbggoiaaSame
namespace Go.Proofs.Ytadnohkgbggoiaa
open Go.RowKit
set_option linter.unusedVariables false
set_option linter.unusedSimpArgs false

theorem Good.lit (w : World) (zs : List Int) (h : ∀ z ∈ zs, IntKind.i64.wrap z = z) (hl : zs.length ≤ 1000000) : Good (w.alloc (.cells (zs.map (Value.int .i64)).toArray 2)) (some ⟨w.heap.size, 0, none⟩) zs.length zs.length zs :=
  ⟨Sl.new .i64 w 2 (0, 0) zs h, Nat.le_refl _, by omega, fun h => by cases h⟩

set_option maxHeartbeats 4000000 in
theorem known12 (w : World) : Calls Try.prog 8 #[] w fun e w' => e = .returned (.bool true) ∧ Below w.heap.size w w' := by
  have A := idsAdd_any (some ⟨w.heap.size, 0, none⟩) 2 2 [1, 5] 3 (w.alloc (.cells #[.int .i64 1, .int .i64 5] 2)) (Good.lit w [1, 5] (by decide) (by decide)) (by decide) (by decide) (upB_up (by decide))
  unfold AddEnd at A
  rw [show addL [1, 5] 3 = [1, 3, 5] by decide, show addE [1, 5] 3 = 0 by decide] at A
  have b0 : Below w.heap.size w (w.alloc (.cells #[.int .i64 1, .int .i64 5] 2)) := box_below _ _
  go_enter Try.func8, Try.ntmps8
  go_wp2_with fail
  go_at_call 9
  refine A.mono ?_
  rintro e w1 ⟨a, c, rfl, g, hb⟩
  have g : Good w1 a 3 c [1, 3, 5] := g
  show _
  have B1 : Hid (Below w.heap.size w w1) := b0.trans (hb.mono b0.size)
  have G1 : Hid (Good w1 a 3 c [1, 3, 5]) := g
  have b2 : Below w1.heap.size w1 (w1.alloc (.cells #[.int .i64 1, .int .i64 3, .int .i64 5] 2)) := box_below _ _
  have S := same_any a (some ⟨w1.heap.size, 0, none⟩) 3 3 c 3 [1, 3, 5] [1, 3, 5] (w1.alloc (.cells #[.int .i64 1, .int .i64 3, .int .i64 5] 2)) (g.sl.below b2) (Good.lit w1 [1, 3, 5] (by decide) (by decide)).sl (by decide)
  rw [show decide (([1, 3, 5] : List Int) = [1, 3, 5]) = true by decide] at S
  clear A b0 hb g
  go_wp2_with fail
  go_at_call 11
  refine S.mono ?_
  rintro e w2 ⟨rfl, q, hw2⟩
  have b3 : Below w1.heap.size w1 w2 := by rw [hw2]; exact b2.trans ((drawn_below _ q).mono b2.size)
  have B2 : Hid (Below w.heap.size w w2) := B1.out.trans (b3.mono B1.out.size)
  have G2 : Hid (Good w2 a 3 c [1, 3, 5]) := G1.out.below b3
  clear S b2 hw2 b3 B1 G1
  go_wp2_with fail
  go_at_call 12
  refine (idsHas_any a 3 c [1, 3, 5] 3 _ G2.out.sl (by decide) (upB_up (by decide))).mono ?_
  rw [show hasB [1, 3, 5] 3 = true by decide]
  rintro e w3 ⟨rfl, rfl⟩
  go_wp2_with fail
  go_at_call 7
  refine (idsIs_any a 3 c [1, 3, 5] _ G2.out.sl).mono ?_
  rw [show isB [1, 3, 5] = true by decide]
  rintro e w4 ⟨rfl, rfl⟩
  have b5 : Below w4.heap.size w4 (w4.alloc (.cells #[.int .i64 2, .int .i64 2] 2)) := box_below _ _
  have B5 : Hid (Below w.heap.size w (w4.alloc (.cells #[.int .i64 2, .int .i64 2] 2))) := B2.out.trans (b5.mono B2.out.size)
  have I := idsIs_any (some ⟨w4.heap.size, 0, none⟩) 2 2 [2, 2] (w4.alloc (.cells #[.int .i64 2, .int .i64 2] 2)) (Good.lit w4 [2, 2] (by decide) (by decide)).sl
  rw [show isB [2, 2] = false by decide] at I
  clear b5 G2 B2
  go_wp2_with fail
  go_at_call 7
  refine I.mono ?_
  rintro e w5 ⟨rfl, rfl⟩
  go_wp2
  go_ret
  exact ⟨rfl, B5.out⟩

end Go.Proofs.Ytadnohkgbggoiaa
