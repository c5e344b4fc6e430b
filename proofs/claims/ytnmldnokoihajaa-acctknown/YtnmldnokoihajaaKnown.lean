/-
  The contracts of giro/cash's Add and of girolaw1's known over this seat's program.
-/
import Derived.Test.YtnmldnokoihajaaSum
import Derived.WalkSmall
namespace Go.Proofs.Ytnmldnokoihajaa
open Go.RowKit
set_option linter.unusedVariables false

/-- A slice that has just been laid has the elements that were laid. -/
theorem has_new {w : World} {b : Nat} {zs : List Int} (hlen : zs.length ≤ 140737488355328) (hwf : ∀ n ∈ zs, -9223372036854775808 ≤ n ∧ n ≤ 9223372036854775807)
    (hc : ∀ i, i < zs.length → w.cell? ⟨b, i, none⟩ = ((zs.map (Value.int .i64)).toArray)[i]?) : Has w (some ⟨b, 0, none⟩) zs.length zs := by
  refine ⟨rfl, hlen, hwf, .inr ⟨b, 0, rfl, ?_⟩⟩
  intro i hi
  rw [Nat.zero_add, hc i hi]
  simp [hi]

theorem has_alloc (w : World) (t : TypeId) (zs : List Int) (hlen : zs.length ≤ 140737488355328) (hwf : ∀ n ∈ zs, -9223372036854775808 ≤ n ∧ n ≤ 9223372036854775807) :
    Has (w.alloc (.cells (zs.map (Value.int .i64)).toArray t)) (some ⟨w.heap.size, 0, none⟩) zs.length zs :=
  has_new hlen hwf fun i hi => World.cell?_alloc_at _ _ _ _ rfl

theorem sum_two (a b : Int) (a0 : -9223372036854775808 ≤ a) (a1 : a ≤ 9223372036854775807) (b0 : -9223372036854775808 ≤ b) (b1 : b ≤ 9223372036854775807) (w : World) :
    Calls Try.prog 23 #[.slice (some ⟨w.heap.size, 0, none⟩) 2 2] (w.alloc (.cells #[.int .i64 a, .int .i64 b] 2)) fun e w' =>
      e = .returned (.tuple #[.int .i64 (heldV (a + b)), .bool (heldB (a + b))]) ∧ w' = w.alloc (.cells #[.int .i64 a, .int .i64 b] 2) := by
  have hs := sum_any (some ⟨w.heap.size, 0, none⟩) 2 2 [a, b] (w.alloc (.cells #[.int .i64 a, .int .i64 b] 2)) (has_alloc w 2 [a, b] (by simp) (by simp; omega))
  have ht : tot [a, b] = a + b := by simp [tot]
  rw [ht] at hs
  exact hs

set_option maxHeartbeats 400000 in
/-- Add. -/
theorem add_any (a b : Int) (a0 : -9223372036854775808 ≤ a) (a1 : a ≤ 9223372036854775807) (b0 : -9223372036854775808 ≤ b) (b1 : b ≤ 9223372036854775807) (w : World) :
    Calls Try.prog 19 #[.int .i64 a, .int .i64 b] w fun e w' => e = .returned (.tuple #[.int .i64 (heldV (a + b)), .bool (heldB (a + b))]) ∧ Below w.heap.size w w' := by
  go_enter Try.func19, Try.ntmps19
  go_wp2_with (go_at_call 23; refine (sum_two a b a0 a1 b0 b1 w).mono ?_; rintro e w' ⟨rfl, rfl⟩)
  go_ret2
  exact ⟨rfl, (Below.refl _ _).alloc (Nat.le_refl _) _⟩

theorem sum_known (w : World) : Calls Try.prog 23 #[.slice (some ⟨w.heap.size, 0, none⟩) 3 3] (w.alloc (.cells #[.int .i64 4611686018427387904, .int .i64 4611686018427387904, .int .i64 (-4611686018427387904)] 2)) fun e w' =>
    e = .returned (.tuple #[.int .i64 4611686018427387904, .bool true]) ∧ w' = w.alloc (.cells #[.int .i64 4611686018427387904, .int .i64 4611686018427387904, .int .i64 (-4611686018427387904)] 2) :=
  sum_any (some ⟨w.heap.size, 0, none⟩) 3 3 [4611686018427387904, 4611686018427387904, -4611686018427387904] _ (has_alloc w 2 [4611686018427387904, 4611686018427387904, -4611686018427387904] (by decide) (by decide))



end Go.Proofs.Ytnmldnokoihajaa
