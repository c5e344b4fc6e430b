/-
  girolaw20.ring: each owes the next one so much.
-/
import Derived.Test.YtlackjldopeigaaRowBase
namespace Go.Proofs.Ytlackjldopeigaa
open Go.RowKit
set_option linter.unusedVariables false
set_option linter.unusedSimpArgs false

def ringL (n : Int) : List P7 := [(1, 0, 1, n, 3, 0, 9), (2, 1, 2, n, 3, 0, 9), (3, 2, 0, n, 3, 0, 9)]

set_option maxHeartbeats 4000000 in
set_option maxRecDepth 100000 in
theorem ring_any (n : Int) (w : World) : Calls Try.prog 27 #[.int .i64 n] w fun e w' => ∃ g c, e = .returned (.slice (some ⟨g, 0, none⟩) 3 c) ∧ w'.ownsRow w.heap.size 51 7 (.slice (some ⟨g, 0, none⟩) 3 c) 3 (payL (ringL n)) ∧ Below w.heap.size w w' := by
  go_enter Try.func27, Try.ntmps27
  go_wp2
  go_loopw [3, 4] (fun l i wr => ∃ (k : Nat) (z : Int) (v : Value), z = k ∧ k ≤ 3 ∧ i = .int .i64 z ∧ v = l ∧ Hid (wr.ownsRow w.heap.size 51 7 v k (payL ((ringL n).take k))) ∧ Hid (Below w.heap.size w wr)) (fun _ i _ => 3 - (intOf i).toNat)
  case atStart => exact ⟨0, 0, _, rfl, by omega, rfl, rfl, World.ownsRow_nil _ _ _ _, Below.refl _ _⟩
  case round =>
    obtain ⟨k, z, v, hz, hk, rfl, rfl, HO, HB⟩ := hrel
    rcases (show k = 0 ∨ k = 1 ∨ k = 2 ∨ k = 3 from by omega) with rfl | rfl | rfl | rfl
    · obtain rfl : z = 0 := by omega
      clear hz hk
      go_wp2_with (at_builtin; refine wpList_append_pays rfl _ _ rfl w.heap.size v 0 ((ringL n).take 0) rfl (own_below HO.out (box_below _ _)) (some ⟨wr.heap.size, 0, none⟩) 1 1 [(1, 0, 1, n, 3, 0, 9)] rfl (PGood.lit1 wr (1, 0, 1, n, 3, 0, 9)) (by omega) (by have := HB.out.size; rw [size_alloc]; omega) ?_)
      intro v9 w9 h9 g9
      have O9 : Hid (w9.ownsRow w.heap.size 51 7 v9 1 (payL ((ringL n).take 1))) := h9
      have B9 : Hid (Below w.heap.size w w9) := (HB.out.alloc HB.out.size _).grown g9 (by rw [size_alloc]; have := HB.out.size; omega) (fun j hj => (HO.out.lt j hj).1)
      clear h9 g9 HO HB
      go_wp2
      go_roundw
      case rel => exact ⟨1, 1, v9, rfl, by omega, rfl, rfl, O9, B9⟩
      case measure => simp [intOf]
    · obtain rfl : z = 1 := by omega
      clear hz hk
      go_wp2_with (at_builtin; refine wpList_append_pays rfl _ _ rfl w.heap.size v 1 ((ringL n).take 1) rfl (own_below HO.out (box_below _ _)) (some ⟨wr.heap.size, 0, none⟩) 1 1 [(2, 1, 2, n, 3, 0, 9)] rfl (PGood.lit1 wr (2, 1, 2, n, 3, 0, 9)) (by omega) (by have := HB.out.size; rw [size_alloc]; omega) ?_)
      intro v9 w9 h9 g9
      have O9 : Hid (w9.ownsRow w.heap.size 51 7 v9 2 (payL ((ringL n).take 2))) := h9
      have B9 : Hid (Below w.heap.size w w9) := (HB.out.alloc HB.out.size _).grown g9 (by rw [size_alloc]; have := HB.out.size; omega) (fun j hj => (HO.out.lt j hj).1)
      clear h9 g9 HO HB
      go_wp2
      go_roundw
      case rel => exact ⟨2, 2, v9, rfl, by omega, rfl, rfl, O9, B9⟩
      case measure => simp [intOf]
    · obtain rfl : z = 2 := by omega
      clear hz hk
      go_wp2_with (at_builtin; refine wpList_append_pays rfl _ _ rfl w.heap.size v 2 ((ringL n).take 2) rfl (own_below HO.out (box_below _ _)) (some ⟨wr.heap.size, 0, none⟩) 1 1 [(3, 2, 0, n, 3, 0, 9)] rfl (PGood.lit1 wr (3, 2, 0, n, 3, 0, 9)) (by omega) (by have := HB.out.size; rw [size_alloc]; omega) ?_)
      intro v9 w9 h9 g9
      have O9 : Hid (w9.ownsRow w.heap.size 51 7 v9 3 (payL ((ringL n).take 3))) := h9
      have B9 : Hid (Below w.heap.size w w9) := (HB.out.alloc HB.out.size _).grown g9 (by rw [size_alloc]; have := HB.out.size; omega) (fun j hj => (HO.out.lt j hj).1)
      clear h9 g9 HO HB
      go_wp2
      go_roundw
      case rel => exact ⟨3, 3, v9, rfl, by omega, rfl, rfl, O9, B9⟩
      case measure => simp [intOf]
    · obtain rfl : z = 3 := by omega
      clear hz hk
      have HO2 : wr.ownsRow w.heap.size 51 7 v 3 (payL (ringL n)) := HO.out
      obtain ⟨g, cm, rfl⟩ := own_some HO2 (fun e => by
        have h1 := HO2.2
        rw [e] at h1
        rcases h1 with ⟨_, h3⟩ | ⟨g', cap, cur, hv, _⟩
        · omega
        · simp at hv)
      have HO3 : Hid (wr.ownsRow w.heap.size 51 7 (.slice (some ⟨g, 0, none⟩) 3 cm) 3 (payL (ringL n))) := HO2
      clear HO HO2
      go_wp2
      go_ret
      exact ⟨g, cm, rfl, HO3.out, HB.out⟩

end Go.Proofs.Ytlackjldopeigaa
