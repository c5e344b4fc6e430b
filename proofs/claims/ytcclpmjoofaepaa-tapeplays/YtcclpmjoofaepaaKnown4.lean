/-
  girolaw4.known.
-/
import Derived.Test.YtcclpmjoofaepaaTapeMine
import Derived.Lib.SlBytesConst
namespace Go.Proofs.Ytcclpmjoofaepaa
open Go.RowKit
set_option linter.unusedVariables false

theorem two_new (w : World) (T : TypeId) : Sl .u8 (w.alloc (.cells #[.int .u8 97, .int .u8 98] T (2, 3))) (some ⟨w.heap.size, 0, none⟩) 2 [97, 98] :=
  Sl.new .u8 w T (2, 3) [97, 98] (by intro n hn; simp at hn; rcases hn with rfl | rfl <;> decide)

set_option maxHeartbeats 4000000 in
theorem known_true (w : World) : Calls Try.prog 26 #[] w (fun e w' => e = .returned (.bool true) ∧ Below w.heap.size w w') := by
  go_enter Try.func26, Try.ntmps26
  go_wp2_with fail
  go_at_call 9
  refine (my_new 10 w w (Below.refl _ _) (by decide) (by decide)).mono ?_
  rintro e w1 ⟨rfl, h1⟩
  obtain ⟨b, hb⟩ : ∃ b, w.heap.size = b := ⟨_, rfl⟩
  have HB : Hid (w.heap.size = b) := hb
  rw [hb] at h1
  rw [hb]
  clear hb
  go_wp2_with fail
  go_at_call 17
  refine (my_arm b w w1 _ h1 1 1 (by decide)).mono ?_
  rintro e w2 ⟨rfl, h2⟩
  clear h1
  have C := Lib.run_convert_bytes_const (P := Try.prog) w2 27 5 #[.int .u8 97, .int .u8 98] 2 2 Try.underlying27 Try.underlying5
  go_wp2_with fail
  go_at_call 11
  refine (my_append b w _ _ (h2.alloc _) 0 _ 2 _ [97, 98] (two_new w2 _) (by simp) (fun _ x hx => by have := h2.base.2; simp at hx; subst hx; simp; omega) (by decide) (by decide) 0 ⟨10, [97, 98], 0, [], 0, 1, true, 1, 1, false⟩ rfl).mono ?_
  rintro e w3 ⟨rfl, h3⟩
  clear h2
  go_wp2_with fail
  go_at_call 13
  refine (my_sync b w w3 _ h3 (by decide) 11 ⟨10, [97], 1, [], 0, 1, true, 1, 1, true⟩ rfl).mono ?_
  rintro e w4 ⟨rfl, h4⟩
  clear h3
  go_wp2_with fail
  go_at_call 21
  refine (my_down b w w4 _ h4).mono ?_
  rintro e w5 ⟨rfl, hw⟩
  obtain rfl := hw.symm
  go_wp2_with fail
  go_at_call 24
  refine (my_read b w w4 _ h4 0 [97] rfl).mono ?_
  rintro e w5 ⟨a5, c5, rfl, s5, n5, k5, h5⟩
  have T5 : (convert 27 9 (.slice a5 1 c5)).run Try.prog w5 = .ok (.string ⟨#[97]⟩) w5 := s5.text (P := Try.prog) (cap := c5) 27 9 5 Try.underlying27 Try.underlying5 Try.underlying9
  clear s5
  go_wp2_with fail
  go_at_call 23
  refine (deck_room b w5 _ _ h5.1).mono ?_
  rintro e w6 ⟨rfl, hw⟩
  obtain rfl := hw.symm
  go_wp2
  go_ret
  exact ⟨rfl, h5.2⟩

end Go.Proofs.Ytcclpmjoofaepaa
