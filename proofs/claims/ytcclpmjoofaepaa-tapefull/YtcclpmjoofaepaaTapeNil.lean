/-
  tape: the methods of a nil deck.
-/
import Derived.Test.YtcclpmjoofaepaaTapeApp
namespace Go.Proofs.Ytcclpmjoofaepaa
open Go.RowKit
set_option linter.unusedVariables false

theorem nil_down (w : World) : Calls Try.prog 21 #[.pointer none] w (fun e w' => e = .returned (.bool true) ∧ w' = w) := by
  go_enter Try.func21, Try.ntmps21
  go_wp2
  go_ret
  exact ⟨rfl, rfl⟩
theorem nil_ops (w : World) : Calls Try.prog 22 #[.pointer none] w (fun e w' => e = .returned (.int .i64 0) ∧ w' = w) := by
  go_enter Try.func22, Try.ntmps22
  go_wp2
  go_ret
  exact ⟨rfl, rfl⟩
theorem nil_room (w : World) : Calls Try.prog 23 #[.pointer none] w (fun e w' => e = .returned (.int .i64 0) ∧ w' = w) := by
  go_enter Try.func23, Try.ntmps23
  go_wp2
  go_ret
  exact ⟨rfl, rfl⟩
theorem nil_read (w : World) (side : Int) : Calls Try.prog 24 #[.pointer none, .int .i64 side] w (fun e w' => e = .returned (.slice none 0 0) ∧ w' = w) := by
  go_enter Try.func24, Try.ntmps24
  go_wp2
  go_ret
  exact ⟨rfl, rfl⟩
theorem nil_restart (w : World) : Calls Try.prog 19 #[.pointer none] w (fun e w' => e = .returned (.tuple #[]) ∧ w' = w) := by
  go_enter Try.func19, Try.ntmps19
  go_wp2
  exact bodyPost_ret (results_none rfl _ _ _) rfl ⟨rfl, rfl⟩
theorem nil_arm (w : World) (x y : Int) : Calls Try.prog 17 #[.pointer none, .agg #[.int .i64 x, .int .i64 y]] w (fun e w' => e = .returned (.tuple #[]) ∧ Below w.heap.size w w') := by
  go_enter Try.func17, Try.ntmps17
  go_wp2
  exact bodyPost_ret (results_none rfl _ _ _) rfl ⟨rfl, (Below.refl _ _).alloc (Nat.le_refl _) _⟩
theorem nil_may (w : World) (side : Int) : Calls Try.prog 27 #[.pointer none, .int .i64 side] w (fun e w' => e = .returned (.int .i64 11) ∧ w' = w) := by
  go_enter Try.func27, Try.ntmps27
  go_wp2_with fail
  go_at_call 21
  refine (nil_down w).mono ?_
  rintro e w1 ⟨rfl, hw⟩
  obtain rfl := hw.symm
  go_wp2
  go_ret
  exact ⟨rfl, rfl⟩
theorem nil_wipe (w : World) (side : Int) : Calls Try.prog 15 #[.pointer none, .int .i64 side] w (fun e w' => e = .returned (.int .i64 11) ∧ w' = w) := by
  go_enter Try.func15, Try.ntmps15
  go_wp2_with fail
  go_at_call 27
  refine (nil_may w side).mono ?_
  rintro e w1 ⟨rfl, hw⟩
  obtain rfl := hw.symm
  go_wp2
  go_ret
  exact ⟨rfl, rfl⟩
theorem nil_append (w : World) (side : Int) (a : Option Addr) (m c : Nat) : Calls Try.prog 11 #[.pointer none, .int .i64 side, .slice a m c] w (fun e w' => e = .returned (.int .i64 11) ∧ w' = w) := by
  go_enter Try.func11, Try.ntmps11
  go_wp2_with fail
  go_at_call 27
  refine (nil_may w side).mono ?_
  rintro e w1 ⟨rfl, hw⟩
  obtain rfl := hw.symm
  go_wp2
  go_ret
  exact ⟨rfl, rfl⟩
theorem nil_sync (w : World) : Calls Try.prog 13 #[.pointer none] w (fun e w' => e = .returned (.int .i64 11) ∧ w' = w) := by
  go_enter Try.func13, Try.ntmps13
  go_wp2_with fail
  go_at_call 21
  refine (nil_down w).mono ?_
  rintro e w1 ⟨rfl, hw⟩
  obtain rfl := hw.symm
  go_wp2
  go_ret
  exact ⟨rfl, rfl⟩

end Go.Proofs.Ytcclpmjoofaepaa
