/-
  The contract of girolaw2's known over this seat's program.
-/
import Derived.Test.YtnakleldhfenjaaWordRef
import Derived.Test.YtnakleldhfenjaaWordNext
import Derived.Lib.SlBytesConst
namespace Go.Proofs.Ytnakleldhfenjaa
open Go.RowKit
set_option linter.unusedVariables false

def kb : List Int := [0, 0, 0, 0, 0, 0, 0, 1, 0, 0, 0, 0, 0, 0, 0, 7, 97]
theorem kb_next : nextS kb = some ([7], [97]) := by decide
theorem kb_wf : ∀ n ∈ kb, IntKind.u8.wrap n = n := by decide
theorem minus2 : encs [-2] = [255, 255, 255, 255, 255, 255, 255, 254] := by decide

theorem known_next (w : World) : Calls Try.prog 12 #[.slice (some ⟨w.heap.size, 0, none⟩) 17 17] (w.alloc (.cells (kb.map (Value.int .u8)).toArray 5 (17, 18))) fun e w1 =>
    ∃ g c1 a c2, e = .returned (.tuple #[.slice (some ⟨g, 0, none⟩) 1 c1, .slice a 1 c2, .bool true]) ∧ w1.cell? ⟨g, 0, none⟩ = some (.int .i64 7) ∧ Sl .u8 w1 a 1 [97] ∧ Below w.heap.size w w1 := by
  have N := next_any (some ⟨w.heap.size, 0, none⟩) 17 17 kb (w.alloc (.cells (kb.map (Value.int .u8)).toArray 5 (17, 18))) (Sl.new .u8 w 5 (17, 18) kb kb_wf) (by decide) (by decide) (by decide)
  refine N.mono ?_
  intro e w1 h
  unfold NextEnd at h
  rw [kb_next] at h
  obtain ⟨bel, v, a, cap, rfl, hown, hS, _, _⟩ := h
  obtain ⟨g, c1, rfl⟩ := own_some hown (by
    intro hv
    subst hv
    rcases hown.2 with h | ⟨g, cap, cur, h, _⟩
    · simp at h
    · simp at h)
  refine ⟨g, c1, a, cap, rfl, hown.cellAt 0 (by decide), hS.below bel, ?_⟩
  exact ((Below.refl _ _).alloc (Nat.le_refl _) _).trans (bel.mono (by simp))

theorem known_put (w : World) : Calls Try.prog 9 #[.slice (some ⟨w.heap.size, 0, none⟩) 1 1] (w.alloc (.cells #[.int .i64 (-2)] 2)) fun e w1 =>
    ∃ g c, e = .returned (.slice (some ⟨g, 0, none⟩) 8 c) ∧ Sl .u8 w1 (some ⟨g, 0, none⟩) 8 [255, 255, 255, 255, 255, 255, 255, 254] ∧ Below w.heap.size w w1 := by
  refine (put_any (some ⟨w.heap.size, 0, none⟩) 1 1 [-2] (w.alloc (.cells #[.int .i64 (-2)] 2)) (Sl.new .i64 w 2 (0, 0) [-2] (by decide)) (by decide)).mono ?_
  rintro e w1 ⟨g, c, rfl, hown, bel⟩
  rw [minus2] at hown ⊢
  obtain ⟨a, cap, hv, hS, _⟩ := Sl.own (ys := [255, 255, 255, 255, 255, 255, 255, 254]) hown (by decide)
  simp at hv
  obtain ⟨rfl, rfl⟩ := hv
  exact ⟨g, c, rfl, hS, ((Below.refl _ _).alloc (Nat.le_refl _) _).trans (bel.mono (by simp))⟩

theorem str_minus2 : strOfNums [255, 255, 255, 255, 255, 255, 255, 254] = { data := #[255, 255, 255, 255, 255, 255, 255, 254] } := by decide
theorem str_a : strOfNums [97] = { data := #[97] } := by decide

set_option maxHeartbeats 1000000 in
/-- known. -/
theorem known2_any (w : World) : Calls Try.prog 16 #[] w fun e w' => e = .returned (.bool true) ∧ Below w.heap.size w w' := by
  have kc := fun (w : World) (C : Array Value) (n c : Nat) => Lib.run_convert_bytes_const (P := Try.prog) w 23 5 C n c Try.underlying23 Try.underlying5
  go_enter Try.func16, Try.ntmps16
  go_wp2_with fail
  refine (known_next w).mono ?_
  rintro e w1 ⟨g, c1, a, c2, rfl, hcell, hS, bel1⟩
  clear kc
  go_wp2_with fail
  refine (known_put w1).mono ?_
  rintro e w2 ⟨g3, c3, rfl, hS3, bel2⟩
  have t1 := hS3.text (P := Try.prog) (cap := c3) 23 9 5 Try.underlying23 Try.underlying5 Try.underlying9
  have t2 := (hS.below bel2).text (P := Try.prog) (cap := c2) 23 9 5 Try.underlying23 Try.underlying5 Try.underlying9
  rw [str_minus2] at t1
  rw [str_a] at t2
  have hcell2 : w2.cell? ⟨g, 0, none⟩ = some (.int .i64 7) := by rw [bel2.cell (p := ⟨g, 0, none⟩) (block_lt_of_cell hcell)]; exact hcell
  have B2 : Hid (Below w.heap.size w w2) := bel1.trans (bel2.mono bel1.size)
  clear hS hS3 hcell bel1 bel2
  go_wp2
  go_ret
  exact ⟨rfl, B2.out⟩

end Go.Proofs.Ytnakleldhfenjaa
