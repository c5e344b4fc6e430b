/-
  The walk of DayKnown.
-/
import Derived.Test.YthaallopiolijaaDayRest
namespace Go.Proofs.Ythaallopiolijaa
open Go.RowKit
set_option linter.unusedVariables false
set_option linter.unusedSimpArgs false
namespace Walk

theorem make4 (w : World) : (Instr.makeSlice 22 (.int .i64 4) (.int .i64 4)).run Try.prog w = .ok (.slice (some ⟨w.heap.size, 0, none⟩) 4 4) (w.alloc (.cells #[.int .i64 0, .int .i64 0, .int .i64 0, .int .i64 0, .int .i64 0, .int .i64 0, .int .i64 0, .int .i64 0] 34)) := by kernel_rfl

theorem asts_four {w : World} {g : Nat} {t : TypeId} (h : w.heap[g]? = some (.cells #[.int .i64 0, .int .i64 0, .int .i64 0, .int .i64 0, .int .i64 0, .int .i64 0, .int .i64 0, .int .i64 0] t (0, 0))) : Asts w (some ⟨g, 0, none⟩) 4 (fun _ => 0) (fun _ => 0) := by
  refine .inr ⟨g, 0, rfl, lt_of_block h, fun r hr => ?_⟩
  obtain rfl | rfl | rfl | rfl : r = 0 ∨ r = 1 ∨ r = 2 ∨ r = 3 := by omega
  all_goals exact ⟨cell_of_row w g _ _ _ _ h, cell_of_row w g _ _ _ _ h⟩

theorem known_out (way : Int) (w : World) (h : ∀ k : Int, 0 ≤ k → k ≤ 8 → ¬ way = k) : Calls Try.prog 6 #[.int .i64 way] w fun e w' => e = .returned (.bool true) ∧ Below w.heap.size w w' := by
  have h0 : (way == 0) = false := by simpa using h 0 (by omega) (by omega)
  have h1 : (way == 1) = false := by simpa using h 1 (by omega) (by omega)
  have h2 : (way == 2) = false := by simpa using h 2 (by omega) (by omega)
  have h3 : (way == 3) = false := by simpa using h 3 (by omega) (by omega)
  have h4 : (way == 4) = false := by simpa using h 4 (by omega) (by omega)
  have h5 : (way == 5) = false := by simpa using h 5 (by omega) (by omega)
  have h6 : (way == 6) = false := by simpa using h 6 (by omega) (by omega)
  have h7 : (way == 7) = false := by simpa using h 7 (by omega) (by omega)
  have h8 : (way == 8) = false := by simpa using h 8 (by omega) (by omega)
  clear h
  go_enter Try.func6, Try.ntmps6
  go_wp2_with fail
  go_at_call 17
  refine (rules_any _).mono ?_
  rintro e w1 ⟨g, rfl, _, b, _⟩
  have B1 : Hid (Below w.heap.size w w1) := b
  clear b
  go_wp2
  go_ret
  exact ⟨rfl, B1.out.alloc B1.out.size _⟩

set_option maxHeartbeats 4000000 in
theorem known_0 (w : World) : Calls Try.prog 6 #[.int .i64 0] w fun e w' => e = .returned (.bool true) ∧ Below w.heap.size w w' := by
  go_enter Try.func6, Try.ntmps6
  go_wp2_with fail
  go_at_call 17
  refine (rules_any _).mono ?_
  rintro e w1 ⟨g, rfl, hgg, b, hc⟩
  have B1 : Hid (Below w.heap.size w w1) := b
  have hb2 : Below w1.heap.size w1 (w1.alloc (.cells #[.int .i64 0, .slice (some ⟨g, 0, none⟩) 1 1, .int .i64 5, .int .i64 9, .int .i64 3] 24)) := box_below _ _
  have B2 : Hid (Below w.heap.size w (w1.alloc (.cells #[.int .i64 0, .slice (some ⟨g, 0, none⟩) 1 1, .int .i64 5, .int .i64 9, .int .i64 3] 24))) := B1.out.trans (hb2.mono B1.out.size)
  have I := is_any 0 (some ⟨g, 0, none⟩) 1 1 (fun _ => 100) (fun _ => 1000) 5 9 3 _ ((asts_two hc).below hb2) (by omega)
  rw [show rulS 0 1 (fun _ => 100) (fun _ => 1000) 5 9 3 = false from rfl] at I
  clear b hc hb2
  go_wp2_with fail
  go_at_call 8
  refine I.mono ?_
  rintro e w3 ⟨rfl, b3⟩
  have B3 : Hid (Below w.heap.size w w3) := B2.out.trans (b3.mono B2.out.size)
  clear b3
  go_wp2_with fail
  go_at_call 10
  refine (known_any _).mono ?_
  rintro e w4 ⟨rfl, b4⟩
  have B4 : Hid (Below w.heap.size w w4) := B3.out.trans (b4.mono B3.out.size)
  go_wp2
  go_ret
  exact ⟨rfl, B4.out⟩

set_option maxHeartbeats 4000000 in
theorem known_1 (w : World) : Calls Try.prog 6 #[.int .i64 1] w fun e w' => e = .returned (.bool true) ∧ Below w.heap.size w w' := by
  go_enter Try.func6, Try.ntmps6
  go_wp2_with fail
  go_at_call 17
  refine (rules_any _).mono ?_
  rintro e w1 ⟨g, rfl, hgg, b, hc⟩
  have B1 : Hid (Below w.heap.size w w1) := b
  have hb2 : Below w1.heap.size w1 (w1.alloc (.cells #[.int .i64 7, .slice (some ⟨g, 0, none⟩) 1 1, .int .i64 5, .int .i64 9, .int .i64 3] 24)) := box_below _ _
  have B2 : Hid (Below w.heap.size w (w1.alloc (.cells #[.int .i64 7, .slice (some ⟨g, 0, none⟩) 1 1, .int .i64 5, .int .i64 9, .int .i64 3] 24))) := B1.out.trans (hb2.mono B1.out.size)
  have I := is_any 7 (some ⟨g, 0, none⟩) 1 1 (fun _ => 100) (fun _ => 1000) 5 9 3 _ ((asts_two hc).below hb2) (by omega)
  rw [show rulS 7 1 (fun _ => 100) (fun _ => 1000) 5 9 3 = false from rfl] at I
  clear b hc hb2
  go_wp2_with fail
  go_at_call 8
  refine I.mono ?_
  rintro e w3 ⟨rfl, b3⟩
  have B3 : Hid (Below w.heap.size w w3) := B2.out.trans (b3.mono B2.out.size)
  clear b3
  go_wp2_with fail
  go_at_call 10
  refine (known_any _).mono ?_
  rintro e w4 ⟨rfl, b4⟩
  have B4 : Hid (Below w.heap.size w w4) := B3.out.trans (b4.mono B3.out.size)
  go_wp2
  go_ret
  exact ⟨rfl, B4.out⟩

set_option maxHeartbeats 4000000 in
theorem known_2 (w : World) : Calls Try.prog 6 #[.int .i64 2] w fun e w' => e = .returned (.bool true) ∧ Below w.heap.size w w' := by
  go_enter Try.func6, Try.ntmps6
  go_wp2_with fail
  go_at_call 17
  refine (rules_any _).mono ?_
  rintro e w1 ⟨g, rfl, hgg, b, hc⟩
  have B1 : Hid (Below w.heap.size w w1) := b
  have hb2 : Below w1.heap.size w1 (w1.alloc (.cells #[.int .i64 2, .slice (some ⟨g, 0, none⟩) 1 1, .int .i64 5, .int .i64 0, .int .i64 3] 24)) := box_below _ _
  have B2 : Hid (Below w.heap.size w (w1.alloc (.cells #[.int .i64 2, .slice (some ⟨g, 0, none⟩) 1 1, .int .i64 5, .int .i64 0, .int .i64 3] 24))) := B1.out.trans (hb2.mono B1.out.size)
  have I := is_any 2 (some ⟨g, 0, none⟩) 1 1 (fun _ => 100) (fun _ => 1000) 5 0 3 _ ((asts_two hc).below hb2) (by omega)
  rw [show rulS 2 1 (fun _ => 100) (fun _ => 1000) 5 0 3 = false from rfl] at I
  clear b hc hb2
  go_wp2_with fail
  go_at_call 8
  refine I.mono ?_
  rintro e w3 ⟨rfl, b3⟩
  have B3 : Hid (Below w.heap.size w w3) := B2.out.trans (b3.mono B2.out.size)
  clear b3
  go_wp2_with fail
  go_at_call 10
  refine (known_any _).mono ?_
  rintro e w4 ⟨rfl, b4⟩
  have B4 : Hid (Below w.heap.size w w4) := B3.out.trans (b4.mono B3.out.size)
  go_wp2
  go_ret
  exact ⟨rfl, B4.out⟩

set_option maxHeartbeats 4000000 in
theorem known_3 (w : World) : Calls Try.prog 6 #[.int .i64 3] w fun e w' => e = .returned (.bool true) ∧ Below w.heap.size w w' := by
  go_enter Try.func6, Try.ntmps6
  go_wp2_with fail
  go_at_call 17
  refine (rules_any _).mono ?_
  rintro e w1 ⟨g, rfl, hgg, b, hc⟩
  have B1 : Hid (Below w.heap.size w w1) := b
  have hb2 : Below w1.heap.size w1 (w1.alloc (.cells #[.int .i64 2, .slice (some ⟨g, 0, none⟩) 1 1, .int .i64 10, .int .i64 9, .int .i64 3] 24)) := box_below _ _
  have B2 : Hid (Below w.heap.size w (w1.alloc (.cells #[.int .i64 2, .slice (some ⟨g, 0, none⟩) 1 1, .int .i64 10, .int .i64 9, .int .i64 3] 24))) := B1.out.trans (hb2.mono B1.out.size)
  have I := is_any 2 (some ⟨g, 0, none⟩) 1 1 (fun _ => 100) (fun _ => 1000) 10 9 3 _ ((asts_two hc).below hb2) (by omega)
  rw [show rulS 2 1 (fun _ => 100) (fun _ => 1000) 10 9 3 = false from rfl] at I
  clear b hc hb2
  go_wp2_with fail
  go_at_call 8
  refine I.mono ?_
  rintro e w3 ⟨rfl, b3⟩
  have B3 : Hid (Below w.heap.size w w3) := B2.out.trans (b3.mono B2.out.size)
  clear b3
  go_wp2_with fail
  go_at_call 10
  refine (known_any _).mono ?_
  rintro e w4 ⟨rfl, b4⟩
  have B4 : Hid (Below w.heap.size w w4) := B3.out.trans (b4.mono B3.out.size)
  go_wp2
  go_ret
  exact ⟨rfl, B4.out⟩

set_option maxHeartbeats 4000000 in
theorem known_4 (w : World) : Calls Try.prog 6 #[.int .i64 4] w fun e w' => e = .returned (.bool true) ∧ Below w.heap.size w w' := by
  go_enter Try.func6, Try.ntmps6
  go_wp2_with fail
  go_at_call 17
  refine (rules_any _).mono ?_
  rintro e w1 ⟨g, rfl, hgg, b, hc⟩
  have B1 : Hid (Below w.heap.size w w1) := b
  have hb2 : Below w1.heap.size w1 (w1.alloc (.cells #[.int .i64 2, .slice (some ⟨g, 0, none⟩) 1 1, .int .i64 5, .int .i64 9, .int .i64 0] 24)) := box_below _ _
  have B2 : Hid (Below w.heap.size w (w1.alloc (.cells #[.int .i64 2, .slice (some ⟨g, 0, none⟩) 1 1, .int .i64 5, .int .i64 9, .int .i64 0] 24))) := B1.out.trans (hb2.mono B1.out.size)
  have I := is_any 2 (some ⟨g, 0, none⟩) 1 1 (fun _ => 100) (fun _ => 1000) 5 9 0 _ ((asts_two hc).below hb2) (by omega)
  rw [show rulS 2 1 (fun _ => 100) (fun _ => 1000) 5 9 0 = false from rfl] at I
  clear b hc hb2
  go_wp2_with fail
  go_at_call 8
  refine I.mono ?_
  rintro e w3 ⟨rfl, b3⟩
  have B3 : Hid (Below w.heap.size w w3) := B2.out.trans (b3.mono B2.out.size)
  clear b3
  go_wp2_with fail
  go_at_call 10
  refine (known_any _).mono ?_
  rintro e w4 ⟨rfl, b4⟩
  have B4 : Hid (Below w.heap.size w w4) := B3.out.trans (b4.mono B3.out.size)
  go_wp2
  go_ret
  exact ⟨rfl, B4.out⟩

set_option maxHeartbeats 4000000 in
theorem known_5 (w : World) : Calls Try.prog 6 #[.int .i64 5] w fun e w' => e = .returned (.bool true) ∧ Below w.heap.size w w' := by
  go_enter Try.func6, Try.ntmps6
  go_wp2_with fail
  go_at_call 17
  refine (rules_any _).mono ?_
  rintro e w1 ⟨g, rfl, hgg, b, hc⟩
  have k0 : w1.cell? ⟨g, 0, none⟩ = some (.int .i64 100) := cell_of_row w1 g 0 _ _ _ hc
  have k1 : w1.cell? ⟨g, 1, none⟩ = some (.int .i64 1000) := cell_of_row w1 g 1 _ _ _ hc
  have hl1 : g < w1.heap.size := lt_of_block hc
  have f1 : ∀ j, w1.frozen? ⟨g, j, none⟩ = false := fun j => frozen_of_row w1 g j _ _ hc
  have bs : Below w.heap.size w (w1.setCell ⟨g, 1, none⟩ (.int .i64 10001)) := b.setCell hgg _
  have B2 : Hid (Below w.heap.size w ((w1.setCell ⟨g, 1, none⟩ (.int .i64 10001)).alloc (.cells #[.int .i64 2, .slice (some ⟨g, 0, none⟩) 1 1, .int .i64 5, .int .i64 9, .int .i64 3] 24))) := bs.alloc bs.size _
  have A : Asts (w1.setCell ⟨g, 1, none⟩ (.int .i64 10001)) (some ⟨g, 0, none⟩) 1 (fun _ => 100) (fun _ => 10001) := by
    refine .inr ⟨g, 0, rfl, by have := lt_of_block hc; simpa using this, fun r hr => ?_⟩
    obtain rfl : r = 0 := by omega
    exact ⟨(World.cell?_setCell_other _ _ _ _ (by simp)).trans k0, World.cell?_setCell_same _ _ _ k1⟩
  have I := is_any 2 (some ⟨g, 0, none⟩) 1 1 (fun _ => 100) (fun _ => 10001) 5 9 3 _ (A.below (box_below _ (.cells #[.int .i64 2, .slice (some ⟨g, 0, none⟩) 1 1, .int .i64 5, .int .i64 9, .int .i64 3] 24))) (by omega)
  rw [show rulS 2 1 (fun _ => 100) (fun _ => 10001) 5 9 3 = false from rfl] at I
  clear A b hc bs
  go_wp2_with fail
  go_at_call 8
  refine I.mono ?_
  rintro e w3 ⟨rfl, b3⟩
  have B3 : Hid (Below w.heap.size w w3) := B2.out.trans (b3.mono B2.out.size)
  clear b3
  go_wp2_with fail
  go_at_call 10
  refine (known_any _).mono ?_
  rintro e w4 ⟨rfl, b4⟩
  have B4 : Hid (Below w.heap.size w w4) := B3.out.trans (b4.mono B3.out.size)
  go_wp2
  go_ret
  exact ⟨rfl, B4.out⟩

set_option maxHeartbeats 4000000 in
theorem known_6 (w : World) : Calls Try.prog 6 #[.int .i64 6] w fun e w' => e = .returned (.bool true) ∧ Below w.heap.size w w' := by
  go_enter Try.func6, Try.ntmps6
  go_wp2_with fail
  go_at_call 17
  refine (rules_any _).mono ?_
  rintro e w1 ⟨g, rfl, hgg, b, hc⟩
  have k0 : w1.cell? ⟨g, 0, none⟩ = some (.int .i64 100) := cell_of_row w1 g 0 _ _ _ hc
  have k1 : w1.cell? ⟨g, 1, none⟩ = some (.int .i64 1000) := cell_of_row w1 g 1 _ _ _ hc
  have hl1 : g < w1.heap.size := lt_of_block hc
  have f1 : ∀ j, w1.frozen? ⟨g, j, none⟩ = false := fun j => frozen_of_row w1 g j _ _ hc
  have bs : Below w.heap.size w (w1.setCell ⟨g, 0, none⟩ (.int .i64 (-1))) := b.setCell hgg _
  have B2 : Hid (Below w.heap.size w ((w1.setCell ⟨g, 0, none⟩ (.int .i64 (-1))).alloc (.cells #[.int .i64 2, .slice (some ⟨g, 0, none⟩) 1 1, .int .i64 5, .int .i64 9, .int .i64 3] 24))) := bs.alloc bs.size _
  have A : Asts (w1.setCell ⟨g, 0, none⟩ (.int .i64 (-1))) (some ⟨g, 0, none⟩) 1 (fun _ => (-1)) (fun _ => 1000) := by
    refine .inr ⟨g, 0, rfl, by have := lt_of_block hc; simpa using this, fun r hr => ?_⟩
    obtain rfl : r = 0 := by omega
    exact ⟨World.cell?_setCell_same _ _ _ k0, (World.cell?_setCell_other _ _ _ _ (by simp)).trans k1⟩
  have I := is_any 2 (some ⟨g, 0, none⟩) 1 1 (fun _ => (-1)) (fun _ => 1000) 5 9 3 _ (A.below (box_below _ (.cells #[.int .i64 2, .slice (some ⟨g, 0, none⟩) 1 1, .int .i64 5, .int .i64 9, .int .i64 3] 24))) (by omega)
  rw [show rulS 2 1 (fun _ => (-1)) (fun _ => 1000) 5 9 3 = false from rfl] at I
  clear A b hc bs
  go_wp2_with fail
  go_at_call 8
  refine I.mono ?_
  rintro e w3 ⟨rfl, b3⟩
  have B3 : Hid (Below w.heap.size w w3) := B2.out.trans (b3.mono B2.out.size)
  clear b3
  go_wp2_with fail
  go_at_call 10
  refine (known_any _).mono ?_
  rintro e w4 ⟨rfl, b4⟩
  have B4 : Hid (Below w.heap.size w w4) := B3.out.trans (b4.mono B3.out.size)
  go_wp2
  go_ret
  exact ⟨rfl, B4.out⟩

set_option maxHeartbeats 4000000 in
theorem known_7 (w : World) : Calls Try.prog 6 #[.int .i64 7] w fun e w' => e = .returned (.bool true) ∧ Below w.heap.size w w' := by
  have hmk := make4
  go_enter Try.func6, Try.ntmps6
  go_wp2_with fail
  go_at_call 17
  refine (rules_any _).mono ?_
  rintro e w1 ⟨g, rfl, hgg, b, hc⟩
  have bs : Below w.heap.size w (w1.alloc (.cells #[.int .i64 2, .slice (some ⟨w1.heap.size + 1, 0, none⟩) 4 4, .int .i64 5, .int .i64 9, .int .i64 3] 24)) := b.alloc b.size _
  have B2 : Hid (Below w.heap.size w ((w1.alloc (.cells #[.int .i64 2, .slice (some ⟨w1.heap.size + 1, 0, none⟩) 4 4, .int .i64 5, .int .i64 9, .int .i64 3] 24)).alloc (.cells #[.int .i64 0, .int .i64 0, .int .i64 0, .int .i64 0, .int .i64 0, .int .i64 0, .int .i64 0, .int .i64 0] 34))) := bs.alloc bs.size _
  have hn := heap_alloc_new (w1.alloc (.cells #[.int .i64 2, .slice (some ⟨w1.heap.size + 1, 0, none⟩) 4 4, .int .i64 5, .int .i64 9, .int .i64 3] 24)) (.cells #[.int .i64 0, .int .i64 0, .int .i64 0, .int .i64 0, .int .i64 0, .int .i64 0, .int .i64 0, .int .i64 0] 34)
  rw [show (w1.alloc (.cells #[.int .i64 2, .slice (some ⟨w1.heap.size + 1, 0, none⟩) 4 4, .int .i64 5, .int .i64 9, .int .i64 3] 24)).heap.size = w1.heap.size + 1 by simp] at hn
  have I := is_any 2 (some ⟨w1.heap.size + 1, 0, none⟩) 4 4 (fun _ => 0) (fun _ => 0) 5 9 3 _ (asts_four hn) (by omega)
  rw [show rulS 2 4 (fun _ => 0) (fun _ => 0) 5 9 3 = false from rfl] at I
  clear b hc bs hn
  go_wp2_with fail
  go_at_call 8
  refine I.mono ?_
  rintro e w3 ⟨rfl, b3⟩
  have B3 : Hid (Below w.heap.size w w3) := B2.out.trans (b3.mono B2.out.size)
  clear b3
  go_wp2_with fail
  go_at_call 10
  refine (known_any _).mono ?_
  rintro e w4 ⟨rfl, b4⟩
  have B4 : Hid (Below w.heap.size w w4) := B3.out.trans (b4.mono B3.out.size)
  go_wp2
  go_ret
  exact ⟨rfl, B4.out⟩

set_option maxHeartbeats 4000000 in
theorem known_8 (w : World) : Calls Try.prog 6 #[.int .i64 8] w fun e w' => e = .returned (.bool true) ∧ Below w.heap.size w w' := by
  go_enter Try.func6, Try.ntmps6
  go_wp2_with fail
  go_at_call 17
  refine (rules_any _).mono ?_
  rintro e w1 ⟨g, rfl, hgg, b, hc⟩
  have B1 : Hid (Below w.heap.size w w1) := b
  have hb2 : Below w1.heap.size w1 (w1.alloc (.cells #[.int .i64 2, .slice (some ⟨g, 0, none⟩) 1 1, .int .i64 5, .int .i64 1048577, .int .i64 3] 24)) := box_below _ _
  have B2 : Hid (Below w.heap.size w (w1.alloc (.cells #[.int .i64 2, .slice (some ⟨g, 0, none⟩) 1 1, .int .i64 5, .int .i64 1048577, .int .i64 3] 24))) := B1.out.trans (hb2.mono B1.out.size)
  have I := is_any 2 (some ⟨g, 0, none⟩) 1 1 (fun _ => 100) (fun _ => 1000) 5 1048577 3 _ ((asts_two hc).below hb2) (by omega)
  rw [show rulS 2 1 (fun _ => 100) (fun _ => 1000) 5 1048577 3 = false from rfl] at I
  clear b hc hb2
  go_wp2_with fail
  go_at_call 8
  refine I.mono ?_
  rintro e w3 ⟨rfl, b3⟩
  have B3 : Hid (Below w.heap.size w w3) := B2.out.trans (b3.mono B2.out.size)
  clear b3
  go_wp2_with fail
  go_at_call 10
  refine (known_any _).mono ?_
  rintro e w4 ⟨rfl, b4⟩
  have B4 : Hid (Below w.heap.size w w4) := B3.out.trans (b4.mono B3.out.size)
  go_wp2
  go_ret
  exact ⟨rfl, B4.out⟩

theorem dayKnown (a0 : Int) (w0 : (Lit.int .i64 a0).wf = true) (w : World) : Calls Try.prog 6 #[.int .i64 a0] w fun e w' => e = .returned (.bool true) ∧ Below w.heap.size w w' := by
  by_cases h0 : a0 = 0
  · subst h0; exact known_0 w
  by_cases h1 : a0 = 1
  · subst h1; exact known_1 w
  by_cases h2 : a0 = 2
  · subst h2; exact known_2 w
  by_cases h3 : a0 = 3
  · subst h3; exact known_3 w
  by_cases h4 : a0 = 4
  · subst h4; exact known_4 w
  by_cases h5 : a0 = 5
  · subst h5; exact known_5 w
  by_cases h6 : a0 = 6
  · subst h6; exact known_6 w
  by_cases h7 : a0 = 7
  · subst h7; exact known_7 w
  by_cases h8 : a0 = 8
  · subst h8; exact known_8 w
  exact known_out a0 w (fun k h h' => by omega)

end Walk
end Go.Proofs.Ythaallopiolijaa
