/-
  The walk of PairKnown.
-/
import Derived.Test.YtajmbcbochjfmaaWalkPairKnown0
import Derived.Test.YtajmbcbochjfmaaWalkPairKnown1
import Derived.Test.YtajmbcbochjfmaaWalkPairKnown2
import Derived.Test.YtajmbcbochjfmaaWalkPairKnown3
import Derived.Test.YtajmbcbochjfmaaRowBase
namespace Go.Proofs.Ytajmbcbochjfmaa
open Go.RowKit
set_option linter.unusedVariables false
set_option linter.unusedSimpArgs false

set_option maxHeartbeats 16000000 in
set_option maxRecDepth 100000 in
theorem pairKnown_rest (way : Int) (w : World) (h0 : ¬ way = 0) (h1 : ¬ way = 1) (h2 : ¬ way = 2) (h3 : ¬ way = 3) : Calls Try.prog 6 #[.int .i64 way] w fun e w' => e = .returned (.bool true) ∧ Below w.heap.size w w' := by
  have e0 : (way == 0) = false := by simpa using h0
  have e1 : (way == 1) = false := by simpa using h1
  have e2 : (way == 2) = false := by simpa using h2
  have e3 : (way == 3) = false := by simpa using h3
  clear h0 h1 h2 h3
  obtain ⟨w0, hw0⟩ : ∃ x, x = (((w.alloc (.cells #[.int .i64 1, .int .i64 0, .int .i64 1, .int .i64 5, .int .i64 3, .int .i64 0, .int .i64 9] 31)).alloc (.cells #[.int .i64 2, .int .i64 1, .int .i64 0, .int .i64 5, .int .i64 3, .int .i64 0, .int .i64 9] 31)).alloc (.cells #[.int .i64 3, .int .i64 1, .int .i64 2, .int .i64 50, .int .i64 2, .int .i64 0, .int .i64 9] 31)).alloc (.cells #[.int .i64 4, .int .i64 1, .int .i64 0, .int .i64 6, .int .i64 3, .int .i64 0, .int .i64 9] 31) := ⟨_, rfl⟩
  obtain ⟨bq, hbq⟩ : ∃ x, w.heap.size + 1 = x := ⟨_, rfl⟩
  obtain ⟨bu, hbu⟩ : ∃ x, bq + 1 = x := ⟨_, rfl⟩
  obtain ⟨br, hbr⟩ : ∃ x, bu + 1 = x := ⟨_, rfl⟩
  have q1 : Below w.heap.size w (w.alloc (.cells #[.int .i64 1, .int .i64 0, .int .i64 1, .int .i64 5, .int .i64 3, .int .i64 0, .int .i64 9] 31)) := box_below _ _
  have q2 : Below w.heap.size w ((w.alloc (.cells #[.int .i64 1, .int .i64 0, .int .i64 1, .int .i64 5, .int .i64 3, .int .i64 0, .int .i64 9] 31)).alloc (.cells #[.int .i64 2, .int .i64 1, .int .i64 0, .int .i64 5, .int .i64 3, .int .i64 0, .int .i64 9] 31)) := q1.alloc q1.size _
  have q3 : Below w.heap.size w (((w.alloc (.cells #[.int .i64 1, .int .i64 0, .int .i64 1, .int .i64 5, .int .i64 3, .int .i64 0, .int .i64 9] 31)).alloc (.cells #[.int .i64 2, .int .i64 1, .int .i64 0, .int .i64 5, .int .i64 3, .int .i64 0, .int .i64 9] 31)).alloc (.cells #[.int .i64 3, .int .i64 1, .int .i64 2, .int .i64 50, .int .i64 2, .int .i64 0, .int .i64 9] 31)) := q2.alloc q2.size _
  have B0 : Hid (Below w.heap.size w w0) := by rw [hw0]; exact q3.alloc q3.size _
  have Sp : Hid (PBox w0 w.heap.size (1, 0, 1, 5, 3, 0, 9)) := by rw [hw0]; exact (((PBox.new w (1, 0, 1, 5, 3, 0, 9)).below (box_below _ _)).below (box_below _ _)).below (box_below _ _)
  have Sq : Hid (PBox w0 bq (2, 1, 0, 5, 3, 0, 9)) := by
    have := ((PBox.new (w.alloc (.cells #[.int .i64 1, .int .i64 0, .int .i64 1, .int .i64 5, .int .i64 3, .int .i64 0, .int .i64 9] 31)) (2, 1, 0, 5, 3, 0, 9)).below (box_below _ (.cells #[.int .i64 3, .int .i64 1, .int .i64 2, .int .i64 50, .int .i64 2, .int .i64 0, .int .i64 9] 31))).below (box_below _ (.cells #[.int .i64 4, .int .i64 1, .int .i64 0, .int .i64 6, .int .i64 3, .int .i64 0, .int .i64 9] 31))
    rw [size_alloc, hbq] at this
    rw [hw0]
    exact this
  have Su : Hid (PBox w0 bu (3, 1, 2, 50, 2, 0, 9)) := by
    have := (PBox.new ((w.alloc (.cells #[.int .i64 1, .int .i64 0, .int .i64 1, .int .i64 5, .int .i64 3, .int .i64 0, .int .i64 9] 31)).alloc (.cells #[.int .i64 2, .int .i64 1, .int .i64 0, .int .i64 5, .int .i64 3, .int .i64 0, .int .i64 9] 31)) (3, 1, 2, 50, 2, 0, 9)).below (box_below _ (.cells #[.int .i64 4, .int .i64 1, .int .i64 0, .int .i64 6, .int .i64 3, .int .i64 0, .int .i64 9] 31))
    rw [size_alloc, size_alloc, hbq, hbu] at this
    rw [hw0]
    exact this
  have Sr : Hid (PBox w0 br (4, 1, 0, 6, 3, 0, 9)) := by
    have := PBox.new (((w.alloc (.cells #[.int .i64 1, .int .i64 0, .int .i64 1, .int .i64 5, .int .i64 3, .int .i64 0, .int .i64 9] 31)).alloc (.cells #[.int .i64 2, .int .i64 1, .int .i64 0, .int .i64 5, .int .i64 3, .int .i64 0, .int .i64 9] 31)).alloc (.cells #[.int .i64 3, .int .i64 1, .int .i64 2, .int .i64 50, .int .i64 2, .int .i64 0, .int .i64 9] 31)) (4, 1, 0, 6, 3, 0, 9)
    rw [size_alloc, size_alloc, size_alloc, hbq, hbu, hbr] at this
    rw [hw0]
    exact this
  have HS0 : Hid (w0.heap.size = br + 1) := by show _ = _; rw [hw0, size_alloc, size_alloc, size_alloc, size_alloc, hbq, hbu, hbr]
  have HBN : Hid (bq = w.heap.size + 1 ∧ bu = bq + 1 ∧ br = bu + 1) := ⟨hbq.symm, hbu.symm, hbr.symm⟩
  clear q1 q2 q3
  have S := some_zero [] 0 none 0 0 w0 (Sl.nil _ _ _) (by omega) (by decide) (by decide) (by decide)
  obtain ⟨H, hH⟩ : ∃ H, w0.heap.size = H := ⟨_, rfl⟩
  have HH : Hid (H = br + 1) := by show _ = _; rw [← hH, HS0.out]
  unfold SomeEnd3 at S
  rw [hH] at S
  clear hH
  obtain ⟨sB, hsB⟩ : ∃ x, H + 4 = x := ⟨_, rfl⟩
  obtain ⟨sM, hsM⟩ : ∃ x, H + 5 = x := ⟨_, rfl⟩
  obtain ⟨sP, hsP⟩ : ∃ x, H + 9 = x := ⟨_, rfl⟩
  have HLIES : Hid (sB = H + 4 ∧ sM = H + 5 ∧ sP = H + 9) := ⟨hsB.symm, hsM.symm, hsP.symm⟩
  clear hsB hsM hsP
  go_enter Try.func6, Try.ntmps6
  go_upto_region 5 with fail
  rw [← hw0]
  try rw [hbq]
  try rw [hbu]
  try rw [hbr]
  clear hw0 hbq hbu hbr
  go_wp2_with fail
  go_at_call 7
  refine S.mono ?_
  rintro e w1 ⟨g, vc, he, lay, bel⟩
  have he : e = .returned (.agg #[.slice (some ⟨g, 0, none⟩) 3 vc, .slice (some ⟨sB, 0, none⟩) 3 3, .slice (some ⟨sM, 0, none⟩) 3 3, .slice (some ⟨sP, 0, none⟩) 3 3]) := by rw [he, HLIES.out.1, HLIES.out.2.1, HLIES.out.2.2]; rfl
  subst he
  have b1 : Below w0.heap.size w0 w1 := bel.mono (by rw [HH.out, HS0.out]; omega)
  obtain ⟨w2, hw2⟩ : ∃ w2, w2 = w1.alloc (.cells #[.slice (some ⟨g, 0, none⟩) 3 vc, .slice (some ⟨sB, 0, none⟩) 3 3, .slice (some ⟨sM, 0, none⟩) 3 3, .slice (some ⟨sP, 0, none⟩) 3 3] 27) := ⟨_, rfl⟩
  obtain ⟨z, hz⟩ : ∃ z, w1.heap.size = z := ⟨_, rfl⟩
  have b2 : Below w0.heap.size w0 w2 := by rw [hw2]; exact b1.trans ((box_below _ _).mono b1.size)
  have HGT : Hid (H + 10 < g ∧ g < z) := ⟨lay.gt, by rw [← hz]; exact lay.lt⟩
  have HL : Hid (Lay4 w2 H z g vc [(0, 0, 0), (0, 0, 0), (0, 0, 0)] [-1, -1, -1] [-1, -1, -1] [-1, -1, -1] [-1, -1, -1] [0, 0, 0] [0, 0, 0] [0, 0, 0]) := by
    refine ⟨by rw [hw2]; exact lay.below (box_below _ _), HGT.out.2, ?_⟩
    rw [hw2, ← hz, HLIES.out.1, HLIES.out.2.1, HLIES.out.2.2]
    exact heap_alloc_new w1 _
  have HB : Hid (Below w.heap.size w w2) := B0.out.trans (b2.mono B0.out.size)
  have Pp : Hid (PBox w2 w.heap.size (1, 0, 1, 5, 3, 0, 9)) := Sp.out.below b2
  have Pq : Hid (PBox w2 bq (2, 1, 0, 5, 3, 0, 9)) := Sq.out.below b2
  have Pu : Hid (PBox w2 bu (3, 1, 2, 50, 2, 0, 9)) := Su.out.below b2
  have Pr : Hid (PBox w2 br (4, 1, 0, 6, 3, 0, 9)) := Sr.out.below b2
  have HALL : Hid (bq = w.heap.size + 1 ∧ bu = bq + 1 ∧ br = bu + 1 ∧ H = br + 1 ∧ H + 10 < g ∧ g < z) := ⟨HBN.out.1, HBN.out.2.1, HBN.out.2.2, HH.out, HGT.out.1, HGT.out.2⟩
  clear S lay bel b1 b2 B0 Sp Sq Su Sr HS0 HBN HH HGT
  go_upto_region 6 with fail
  rw [← hw2]
  clear hw2
  try rw [hz]
  clear hz
  clear HL Pp Pq Pu Pr HALL HLIES
  go_wp2
  go_ret
  exact ⟨rfl, HB.out⟩

theorem Walk.pairKnown (way : Int) (w : World) (hway : (Lit.int .i64 way).wf = true) : Calls Try.prog 6 #[.int .i64 way] w fun e w' => e = .returned (.bool true) ∧ Below w.heap.size w w' := by
  by_cases h0 : way = 0
  · subst h0; exact pairKnown0 w
  by_cases h1 : way = 1
  · subst h1; exact pairKnown1 w
  by_cases h2 : way = 2
  · subst h2; exact pairKnown2 w
  by_cases h3 : way = 3
  · subst h3; exact pairKnown3 w
  exact pairKnown_rest way w h0 h1 h2 h3

end Go.Proofs.Ytajmbcbochjfmaa
