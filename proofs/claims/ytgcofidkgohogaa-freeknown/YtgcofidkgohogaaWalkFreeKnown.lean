/-
  The walk of FreeKnown.
-/
import Derived.Test.YtgcofidkgohogaaWalkFreeKnown0
import Derived.Test.YtgcofidkgohogaaWalkFreeKnown1
import Derived.Test.YtgcofidkgohogaaWalkFreeKnown2
import Derived.Test.YtgcofidkgohogaaWalkFreeKnown3
import Derived.Test.YtgcofidkgohogaaWalkFreeKnown4
import Derived.Test.YtgcofidkgohogaaRowBase
namespace Go.Proofs.Ytgcofidkgohogaa
open Go.RowKit
set_option linter.unusedVariables false
set_option linter.unusedSimpArgs false

set_option maxHeartbeats 16000000 in
set_option maxRecDepth 100000 in
theorem freeKnown_rest (way : Int) (w : World) (h0 : ¬ way = 0) (h1 : ¬ way = 1) (h2 : ¬ way = 2) (h3 : ¬ way = 3) (h4 : ¬ way = 4) : Calls Try.prog 6 #[.int .i64 way] w fun e w' => e = .returned (.bool true) ∧ Below w.heap.size w w' := by
  have e0 : (way == 0) = false := by simpa using h0
  have e1 : (way == 1) = false := by simpa using h1
  have e2 : (way == 2) = false := by simpa using h2
  have e3 : (way == 3) = false := by simpa using h3
  have e4 : (way == 4) = false := by simpa using h4
  clear h0 h1 h2 h3 h4
  obtain ⟨w0, hw0⟩ : ∃ x, x = ((w.alloc (.cells #[.int .i64 1, .int .i64 0, .int .i64 1, .int .i64 9, .int .i64 2, .int .i64 0, .int .i64 9] 31)).alloc (.cells #[.int .i64 2, .int .i64 0, .int .i64 1, .int .i64 2, .int .i64 3, .int .i64 0, .int .i64 9] 31)).alloc (.cells #[.int .i64 3, .int .i64 0, .int .i64 2, .int .i64 3, .int .i64 3, .int .i64 0, .int .i64 9] 31) := ⟨_, rfl⟩
  obtain ⟨bn, hbn⟩ : ∃ x, w.heap.size + 1 = x := ⟨_, rfl⟩
  obtain ⟨bm, hbm⟩ : ∃ x, bn + 1 = x := ⟨_, rfl⟩
  have q1 : Below w.heap.size w (w.alloc (.cells #[.int .i64 1, .int .i64 0, .int .i64 1, .int .i64 9, .int .i64 2, .int .i64 0, .int .i64 9] 31)) := box_below _ _
  have q2 : Below w.heap.size w ((w.alloc (.cells #[.int .i64 1, .int .i64 0, .int .i64 1, .int .i64 9, .int .i64 2, .int .i64 0, .int .i64 9] 31)).alloc (.cells #[.int .i64 2, .int .i64 0, .int .i64 1, .int .i64 2, .int .i64 3, .int .i64 0, .int .i64 9] 31)) := q1.alloc q1.size _
  have B0 : Hid (Below w.heap.size w w0) := by rw [hw0]; exact q2.alloc q2.size _
  have Su : Hid (PBox w0 w.heap.size (1, 0, 1, 9, 2, 0, 9)) := by rw [hw0]; exact ((PBox.new w (1, 0, 1, 9, 2, 0, 9)).below (box_below _ _)).below (box_below _ _)
  have Sn : Hid (PBox w0 bn (2, 0, 1, 2, 3, 0, 9)) := by
    have := (PBox.new (w.alloc (.cells #[.int .i64 1, .int .i64 0, .int .i64 1, .int .i64 9, .int .i64 2, .int .i64 0, .int .i64 9] 31)) (2, 0, 1, 2, 3, 0, 9)).below (box_below _ (.cells #[.int .i64 3, .int .i64 0, .int .i64 2, .int .i64 3, .int .i64 3, .int .i64 0, .int .i64 9] 31))
    rw [size_alloc, hbn] at this
    rw [hw0]
    exact this
  have Sm : Hid (PBox w0 bm (3, 0, 2, 3, 3, 0, 9)) := by
    have := PBox.new ((w.alloc (.cells #[.int .i64 1, .int .i64 0, .int .i64 1, .int .i64 9, .int .i64 2, .int .i64 0, .int .i64 9] 31)).alloc (.cells #[.int .i64 2, .int .i64 0, .int .i64 1, .int .i64 2, .int .i64 3, .int .i64 0, .int .i64 9] 31)) (3, 0, 2, 3, 3, 0, 9)
    rw [size_alloc, size_alloc, hbn, hbm] at this
    rw [hw0]
    exact this
  have HS0 : Hid (w0.heap.size = bm + 1) := by show _ = _; rw [hw0, size_alloc, size_alloc, size_alloc, hbn, hbm]
  have HBN : Hid (bn = w.heap.size + 1 ∧ bm = bn + 1) := ⟨hbn.symm, hbm.symm⟩
  clear q1 q2
  have S := some_zero [4] 0 (some ⟨w0.heap.size, 0, none⟩) 1 1 (w0.alloc (.cells #[.int .i64 4] 2)) (Sl.new .i64 w0 2 (0, 0) [4] (by decide)) (by omega) (by decide) (by decide) (by decide)
  obtain ⟨H, hH⟩ : ∃ H, (w0.alloc (.cells #[.int .i64 4] 2)).heap.size = H := ⟨_, rfl⟩
  have HH : Hid (H = bm + 2) := by show _ = _; rw [← hH, size_alloc, HS0.out]
  unfold SomeEnd3 at S
  rw [hH] at S
  clear hH
  obtain ⟨sB, hsB⟩ : ∃ x, H + 4 = x := ⟨_, rfl⟩
  obtain ⟨sM, hsM⟩ : ∃ x, H + 5 = x := ⟨_, rfl⟩
  obtain ⟨sP, hsP⟩ : ∃ x, H + 9 = x := ⟨_, rfl⟩
  have HLIES : Hid (sB = H + 4 ∧ sM = H + 5 ∧ sP = H + 9) := ⟨hsB.symm, hsM.symm, hsP.symm⟩
  clear hsB hsM hsP
  go_enter Try.func6, Try.ntmps6
  go_upto_region 4 with fail
  rw [← hw0]
  try rw [hbn]
  try rw [hbm]
  clear hw0 hbn hbm
  go_wp2_with fail
  go_at_call 7
  refine S.mono ?_
  rintro e w1 ⟨g, vc, he, lay, bel⟩
  have he : e = .returned (.agg #[.slice (some ⟨g, 0, none⟩) 3 vc, .slice (some ⟨sB, 0, none⟩) 3 3, .slice (some ⟨sM, 0, none⟩) 3 3, .slice (some ⟨sP, 0, none⟩) 3 3]) := by rw [he, HLIES.out.1, HLIES.out.2.1, HLIES.out.2.2]; rfl
  subst he
  have b1 : Below w0.heap.size w0 w1 := (box_below _ _).trans (bel.mono (by rw [HH.out, HS0.out]; omega))
  obtain ⟨w2, hw2⟩ : ∃ w2, w2 = w1.alloc (.cells #[.slice (some ⟨g, 0, none⟩) 3 vc, .slice (some ⟨sB, 0, none⟩) 3 3, .slice (some ⟨sM, 0, none⟩) 3 3, .slice (some ⟨sP, 0, none⟩) 3 3] 27) := ⟨_, rfl⟩
  obtain ⟨z, hz⟩ : ∃ z, w1.heap.size = z := ⟨_, rfl⟩
  have b2 : Below w0.heap.size w0 w2 := by rw [hw2]; exact b1.trans ((box_below _ _).mono b1.size)
  have HGT : Hid (H + 10 < g ∧ g < z) := ⟨lay.gt, by rw [← hz]; exact lay.lt⟩
  have HL : Hid (Lay4 w2 H z g vc [(4, 0, 0), (0, 0, 0), (0, 0, 0)] [-1, -1, -1] [-1, -1, -1] [-1, -1, -1] [-1, -1, -1] [0, 0, 0] [0, 0, 0] [0, 0, 0]) := by
    refine ⟨by rw [hw2]; exact lay.below (box_below _ _), HGT.out.2, ?_⟩
    rw [hw2, ← hz, HLIES.out.1, HLIES.out.2.1, HLIES.out.2.2]
    exact heap_alloc_new w1 _
  have HB : Hid (Below w.heap.size w w2) := B0.out.trans (b2.mono B0.out.size)
  have Pu : Hid (PBox w2 w.heap.size (1, 0, 1, 9, 2, 0, 9)) := Su.out.below b2
  have Pn : Hid (PBox w2 bn (2, 0, 1, 2, 3, 0, 9)) := Sn.out.below b2
  have Pm : Hid (PBox w2 bm (3, 0, 2, 3, 3, 0, 9)) := Sm.out.below b2
  have HALL : Hid (bn = w.heap.size + 1 ∧ bm = bn + 1 ∧ H = bm + 2 ∧ H + 10 < g ∧ g < z) := ⟨HBN.out.1, HBN.out.2, HH.out, HGT.out.1, HGT.out.2⟩
  clear S lay bel b1 b2 B0 Su Sn Sm HS0 HBN HH HGT
  go_upto_region 5 with fail
  rw [← hw2]
  clear hw2
  try rw [hz]
  clear hz
  clear HL Pu Pn Pm HALL HLIES
  go_wp2
  go_ret
  exact ⟨rfl, HB.out⟩

theorem Walk.freeKnown (way : Int) (w : World) (hway : (Lit.int .i64 way).wf = true) : Calls Try.prog 6 #[.int .i64 way] w fun e w' => e = .returned (.bool true) ∧ Below w.heap.size w w' := by
  by_cases h0 : way = 0
  · subst h0; exact freeKnown0 w
  by_cases h1 : way = 1
  · subst h1; exact freeKnown1 w
  by_cases h2 : way = 2
  · subst h2; exact freeKnown2 w
  by_cases h3 : way = 3
  · subst h3; exact freeKnown3 w
  by_cases h4 : way = 4
  · subst h4; exact freeKnown4 w
  exact freeKnown_rest way w h0 h1 h2 h3 h4

end Go.Proofs.Ytgcofidkgohogaa
