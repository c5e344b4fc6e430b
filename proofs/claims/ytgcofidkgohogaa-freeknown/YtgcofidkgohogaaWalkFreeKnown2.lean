/-
  FreeKnown, way 2.
-/
import Derived.Test.YtgcofidkgohogaaFreeKnownW
import Derived.Test.YtgcofidkgohogaaFreeRunP
import Derived.Test.YtgcofidkgohogaaKnown18
import Derived.Test.YtgcofidkgohogaaRowBase
namespace Go.Proofs.Ytgcofidkgohogaa
open Go.RowKit
set_option linter.unusedVariables false
set_option linter.unusedSimpArgs false

set_option maxHeartbeats 16000000 in
set_option maxRecDepth 100000 in
theorem freeKnown2 (w : World) : Calls Try.prog 6 #[.int .i64 2] w fun e w' => e = .returned (.bool true) ∧ Below w.heap.size w w' := by
  obtain ⟨w0, hw0⟩ : ∃ x, x = ((w.alloc (.cells #[.int .i64 1, .int .i64 0, .int .i64 1, .int .i64 9, .int .i64 2, .int .i64 0, .int .i64 9] 31)).alloc (.cells #[.int .i64 2, .int .i64 0, .int .i64 1, .int .i64 2, .int .i64 3, .int .i64 0, .int .i64 9] 31)).alloc (.cells #[.int .i64 3, .int .i64 0, .int .i64 2, .int .i64 3, .int .i64 3, .int .i64 0, .int .i64 9] 31) := ⟨_, rfl⟩
  obtain ⟨bn, hbn⟩ : ∃ x, w.heap.size + 1 = x := ⟨_, rfl⟩
  obtain ⟨bm, hbm⟩ : ∃ x, bn + 1 = x := ⟨_, rfl⟩
  have q1 : Below w.heap.size w (w.alloc (.cells #[.int .i64 1, .int .i64 0, .int .i64 1, .int .i64 9, .int .i64 2, .int .i64 0, .int .i64 9] 31)) := box_below _ _
  have q2 : Below w.heap.size w ((w.alloc (.cells #[.int .i64 1, .int .i64 0, .int .i64 1, .int .i64 9, .int .i64 2, .int .i64 0, .int .i64 9] 31)).alloc (.cells #[.int .i64 2, .int .i64 0, .int .i64 1, .int .i64 2, .int .i64 3, .int .i64 0, .int .i64 9] 31)) := q1.alloc q1.size _
  have B0 : Hid (Below w.heap.size w w0) := by rw [hw0]; exact q2.alloc q2.size _
  have Su : Hid (PBox w0 w.heap.size (1, 0, 1, 9, 2, 0, 9)) := by rw [hw0]; exact ((PBox.new w (1, 0, 1, 9, 2, 0, 9)).below (box_below _ _)).below (box_below _ _)
  have Sn : Hid (PBox w0 bn (2, 0, 1, 2, 3, 0, 9)) := by
    have := (PBox.new (w.alloc (.cells #[.int .i64 1, .int .i64 0, .int .i64 1, .int .i64 9, .int .i64 2, .int .i64 0, .int .i64 9] 31)) (2, 0, 1, 2, 3, 0, 9)).below (box_below _ (.cells #[.int .i64 3, .int .i64 0, .int .i64 2, .int .i64 3, .int .i64 3, .int .i64 0, .int .i64 9] 31))
    rw [size_alloc, hbn] at this
    rw [hw0]
    exact this
  have Sm : Hid (PBox w0 bm (3, 0, 2, 3, 3, 0, 9)) := by
    have := PBox.new ((w.alloc (.cells #[.int .i64 1, .int .i64 0, .int .i64 1, .int .i64 9, .int .i64 2, .int .i64 0, .int .i64 9] 31)).alloc (.cells #[.int .i64 2, .int .i64 0, .int .i64 1, .int .i64 2, .int .i64 3, .int .i64 0, .int .i64 9] 31)) (3, 0, 2, 3, 3, 0, 9)
    rw [size_alloc, size_alloc, hbn, hbm] at this
    rw [hw0]
    exact this
  have HS0 : Hid (w0.heap.size = bm + 1) := by show _ = _; rw [hw0, size_alloc, size_alloc, size_alloc, hbn, hbm]
  have HBN : Hid (bn = w.heap.size + 1 ∧ bm = bn + 1) := ⟨hbn.symm, hbm.symm⟩
  clear q1 q2
  have S := some_zero [4] 0 (some ⟨w0.heap.size, 0, none⟩) 1 1 (w0.alloc (.cells #[.int .i64 4] 2)) (Sl.new .i64 w0 2 (0, 0) [4] (by decide)) (by omega) (by decide) (by decide) (by decide)
  obtain ⟨H, hH⟩ : ∃ H, (w0.alloc (.cells #[.int .i64 4] 2)).heap.size = H := ⟨_, rfl⟩
  have HH : Hid (H = bm + 2) := by show _ = _; rw [← hH, size_alloc, HS0.out]
  unfold SomeEnd3 at S
  rw [hH] at S
  clear hH
  obtain ⟨sB, hsB⟩ : ∃ x, H + 4 = x := ⟨_, rfl⟩
  obtain ⟨sM, hsM⟩ : ∃ x, H + 5 = x := ⟨_, rfl⟩
  obtain ⟨sP, hsP⟩ : ∃ x, H + 9 = x := ⟨_, rfl⟩
  have HLIES : Hid (sB = H + 4 ∧ sM = H + 5 ∧ sP = H + 9) := ⟨hsB.symm, hsM.symm, hsP.symm⟩
  clear hsB hsM hsP
  go_enter Try.func6, Try.ntmps6
  go_upto_region 4 with fail
  rw [← hw0]
  try rw [hbn]
  try rw [hbm]
  clear hw0 hbn hbm
  go_wp2_with fail
  go_at_call 7
  refine S.mono ?_
  rintro e w1 ⟨g, vc, he, lay, bel⟩
  have he : e = .returned (.agg #[.slice (some ⟨g, 0, none⟩) 3 vc, .slice (some ⟨sB, 0, none⟩) 3 3, .slice (some ⟨sM, 0, none⟩) 3 3, .slice (some ⟨sP, 0, none⟩) 3 3]) := by rw [he, HLIES.out.1, HLIES.out.2.1, HLIES.out.2.2]; rfl
  subst he
  have b1 : Below w0.heap.size w0 w1 := (box_below _ _).trans (bel.mono (by rw [HH.out, HS0.out]; omega))
  obtain ⟨w2, hw2⟩ : ∃ w2, w2 = w1.alloc (.cells #[.slice (some ⟨g, 0, none⟩) 3 vc, .slice (some ⟨sB, 0, none⟩) 3 3, .slice (some ⟨sM, 0, none⟩) 3 3, .slice (some ⟨sP, 0, none⟩) 3 3] 27) := ⟨_, rfl⟩
  obtain ⟨z, hz⟩ : ∃ z, w1.heap.size = z := ⟨_, rfl⟩
  have b2 : Below w0.heap.size w0 w2 := by rw [hw2]; exact b1.trans ((box_below _ _).mono b1.size)
  have HGT : Hid (H + 10 < g ∧ g < z) := ⟨lay.gt, by rw [← hz]; exact lay.lt⟩
  have HL : Hid (Lay4 w2 H z g vc [(4, 0, 0), (0, 0, 0), (0, 0, 0)] [-1, -1, -1] [-1, -1, -1] [-1, -1, -1] [-1, -1, -1] [0, 0, 0] [0, 0, 0] [0, 0, 0]) := by
    refine ⟨by rw [hw2]; exact lay.below (box_below _ _), HGT.out.2, ?_⟩
    rw [hw2, ← hz, HLIES.out.1, HLIES.out.2.1, HLIES.out.2.2]
    exact heap_alloc_new w1 _
  have HB : Hid (Below w.heap.size w w2) := B0.out.trans (b2.mono B0.out.size)
  have Pu : Hid (PBox w2 w.heap.size (1, 0, 1, 9, 2, 0, 9)) := Su.out.below b2
  have Pn : Hid (PBox w2 bn (2, 0, 1, 2, 3, 0, 9)) := Sn.out.below b2
  have Pm : Hid (PBox w2 bm (3, 0, 2, 3, 3, 0, 9)) := Sm.out.below b2
  have HALL : Hid (bn = w.heap.size + 1 ∧ bm = bn + 1 ∧ H = bm + 2 ∧ H + 10 < g ∧ g < z) := ⟨HBN.out.1, HBN.out.2, HH.out, HGT.out.1, HGT.out.2⟩
  clear S lay bel b1 b2 B0 Su Sn Sm HS0 HBN HH HGT
  go_upto_region 5 with fail
  rw [← hw2]
  clear hw2
  try rw [hz]
  clear hz
  go_upto_region 14 with fail
  obtain ⟨w3, hw3⟩ : ∃ x, x = (w2.setCell ⟨bn, 3, none⟩ (.int .i64 7)) := ⟨_, rfl⟩
  have HL2 : Hid (Lay4 w3 H z g vc [(4, 0, 0), (0, 0, 0), (0, 0, 0)] [-1, -1, -1] [-1, -1, -1] [-1, -1, -1] [-1, -1, -1] [0, 0, 0] [0, 0, 0] [0, 0, 0]) := by rw [hw3]; exact (HL.out.near (by have := HALL.out; omega) 3 (.int .i64 7))
  have Qu : Hid (PBox w3 w.heap.size (1, 0, 1, 9, 2, 0, 9)) := by rw [hw3]; exact (Pu.out.cellFar (by have := HALL.out; omega) 3 (.int .i64 7))
  have Qn : Hid (PBox w3 bn (2, 0, 1, 7, 3, 0, 9)) := by rw [hw3]; exact (Pn.out.cellSet 3 (.int .i64 7) (2, 0, 1, 7, 3, 0, 9) rfl)
  have Qm : Hid (PBox w3 bm (3, 0, 2, 3, 3, 0, 9)) := by rw [hw3]; exact (Pm.out.cellFar (by have := HALL.out; omega) 3 (.int .i64 7))
  have HB2 : Hid (Below w.heap.size w w3) := by rw [hw3]; exact (HB.out.setCell (p := ⟨bn, 3, none⟩) (by have := HALL.out; show w.heap.size ≤ bn; omega) (.int .i64 7))
  have c0 : w2.cell? ⟨bn, 3, none⟩ = some (.int .i64 2) := (Pn.out.at7).2.2.2.1
  have f0 := Pn.out.free 3
  go_upto_region 15 with fail
  rw [← hw3]
  clear hw3 c0 f0 HL HB Pu Pn Pm
  have HL := HL2
  have HB := HB2
  have Pu := Qu
  have Pn := Qn
  have Pm := Qm
  clear HL2 HB2 Qu Qn Qm
  have NB : Hid (Bk w3 ⟨some ⟨g, 0, none⟩, 3, vc, some ⟨sB, 0, none⟩, 3, 3, some ⟨sM, 0, none⟩, 3, 3, some ⟨sP, 0, none⟩, 3, 3⟩ ⟨[(4, 0, 0), (0, 0, 0), (0, 0, 0)], [[-1, -1, -1], [-1, -1, -1], [-1, -1, -1]], [-1, -1, -1], [[0, 0, 0], [0, 0, 0], [0, 0, 0]]⟩) := by
    have := HL.out.bk4 ⟨rfl, rfl, rfl, rfl, rfl, rfl, rfl⟩ (by show ∀ z ∈ _, ∀ n ∈ z, IntKind.i64.wrap n = n; decide) (by show ∀ n ∈ _, IntKind.i64.wrap n = n; decide) (by show ∀ z ∈ _, ∀ n ∈ z, IntKind.i64.wrap n = n; decide)
    rw [HLIES.out.1, HLIES.out.2.1, HLIES.out.2.2]
    exact this
  have CC := run_any ⟨some ⟨g, 0, none⟩, 3, vc, some ⟨sB, 0, none⟩, 3, 3, some ⟨sM, 0, none⟩, 3, 3, some ⟨sP, 0, none⟩, 3, 3⟩ ⟨[(4, 0, 0), (0, 0, 0), (0, 0, 0)], [[-1, -1, -1], [-1, -1, -1], [-1, -1, -1]], [-1, -1, -1], [[0, 0, 0], [0, 0, 0], [0, 0, 0]]⟩ (some ⟨w3.heap.size, 0, none⟩) 2 2 [(2, 0, 1, 7, 3, 0, 9), (3, 0, 2, 3, 3, 0, 9)] 1 _ (NB.out.below (box_below w3 _)) fk2_0_good (PGood.lit2 w3 (2, 0, 1, 7, 3, 0, 9) (3, 0, 2, 3, 3, 0, 9)) fk2_0_que fk2_0_fr
  have HD : Hid ((runF ⟨[(4, 0, 0), (0, 0, 0), (0, 0, 0)], [[-1, -1, -1], [-1, -1, -1], [-1, -1, -1]], [-1, -1, -1], [[0, 0, 0], [0, 0, 0], [0, 0, 0]]⟩ [(2, 0, 1, 7, 3, 0, 9), (3, 0, 2, 3, 3, 0, 9)] 1).2.2 = [(3, 0, 2, 3, 3, 0, 9)]) := fk2_0_done
  generalize runF ⟨[(4, 0, 0), (0, 0, 0), (0, 0, 0)], [[-1, -1, -1], [-1, -1, -1], [-1, -1, -1]], [-1, -1, -1], [[0, 0, 0], [0, 0, 0], [0, 0, 0]]⟩ [(2, 0, 1, 7, 3, 0, 9), (3, 0, 2, 3, 3, 0, 9)] 1 = R0 at CC HD
  have x0 : w3.cell? ⟨z, 0, none⟩ = some (.slice (some ⟨g, 0, none⟩) 3 vc) := HL.out.cell rfl
  have x1 : w3.cell? ⟨z, 1, none⟩ = some (.slice (some ⟨sB, 0, none⟩) 3 3) := by rw [HLIES.out.1]; exact HL.out.cell rfl
  have x2 : w3.cell? ⟨z, 2, none⟩ = some (.slice (some ⟨sM, 0, none⟩) 3 3) := by rw [HLIES.out.2.1]; exact HL.out.cell rfl
  have x3 : w3.cell? ⟨z, 3, none⟩ = some (.slice (some ⟨sP, 0, none⟩) 3 3) := by rw [HLIES.out.2.2]; exact HL.out.cell rfl
  obtain ⟨n0, n1, n2, n3, n4, n5, n6⟩ := Pn.out.at7
  simp only [P7.id, P7.fr, P7.to, P7.am, P7.cl, P7.st, P7.ti] at n0 n1 n2 n3 n4 n5 n6
  obtain ⟨m0, m1, m2, m3, m4, m5, m6⟩ := Pm.out.at7
  simp only [P7.id, P7.fr, P7.to, P7.am, P7.cl, P7.st, P7.ti] at m0 m1 m2 m3 m4 m5 m6
  go_wp2_with fail
  go_at_call 11
  refine CC.mono ?_
  rintro e w4 ⟨y, al0, nl0, cl0, ad0, nd0, cd0, rfl, -, -, gl, -, gd, -, hb⟩
  obtain ⟨yA, mA, eA, yB, mB, eB, yM, mM, eM, yP, mP, eP⟩ := y
  obtain ⟨w5, hw5⟩ : ∃ x, x = w4.alloc (.cells #[.slice yA mA eA, .slice yB mB eB, .slice yM mM eM, .slice yP mP eP] 27) := ⟨_, rfl⟩
  have b56 : Below w4.heap.size w4 w5 := by rw [hw5]; exact box_below _ _
  have b6 : Below w3.heap.size w3 w5 := (box_below w3 _).trans ((hb.trans (b56.mono hb.size)).mono (by rw [size_alloc]; omega))
  have HL2 : Hid (Lay4 w5 H z g vc [(4, 0, 0), (0, 0, 0), (0, 0, 0)] [-1, -1, -1] [-1, -1, -1] [-1, -1, -1] [-1, -1, -1] [0, 0, 0] [0, 0, 0] [0, 0, 0]) := HL.out.below b6
  have Qu : Hid (PBox w5 w.heap.size (1, 0, 1, 9, 2, 0, 9)) := Pu.out.below b6
  have Qn : Hid (PBox w5 bn (2, 0, 1, 7, 3, 0, 9)) := Pn.out.below b6
  have Qm : Hid (PBox w5 bm (3, 0, 2, 3, 3, 0, 9)) := Pm.out.below b6
  have HB2 : Hid (Below w.heap.size w w5) := HB.out.trans (b6.mono HB.out.size)
  have GD : Hid (PGood w5 ad0 nd0 cd0 [(3, 0, 2, 3, 3, 0, 9)]) := by rw [← HD.out]; exact gd.below b56
  obtain rfl : nd0 = 1 := GD.out.len
  clear CC hb b56 b6 gl gd NB HD x0 x1 x2 x3 n0 n1 n2 n3 n4 n5 n6 m0 m1 m2 m3 m4 m5 m6 HL HB Pu Pn Pm
  have HL := HL2
  have HB := HB2
  have Pu := Qu
  have Pn := Qn
  have Pm := Qm
  clear HL2 HB2 Qu Qn Qm
  go_upto_region 16 with fail
  rw [← hw5]
  clear hw5
  obtain ⟨m0, m1, m2, m3, m4, m5, m6⟩ := Pm.out.at7
  simp only [P7.id, P7.fr, P7.to, P7.am, P7.cl, P7.st, P7.ti] at m0 m1 m2 m3 m4 m5 m6
  have S := same_true ad0 (some ⟨w5.heap.size, 0, none⟩) 1 1 cd0 1 [(3, 0, 2, 3, 3, 0, 9)] _ (GD.out.below (box_below w5 _)) (PGood.lit1 w5 (3, 0, 2, 3, 3, 0, 9))
  go_wp2_with fail
  go_at_call 24
  refine S.mono ?_
  rintro e ws ⟨rfl, hb⟩
  have HB2 : Hid (Below w.heap.size w ws) := HB.out.trans (((box_below _ _).trans (hb.mono (by rw [size_alloc]; omega))).mono HB.out.size)
  clear S hb HB m0 m1 m2 m3 m4 m5 m6
  have HB := HB2
  clear HB2
  have KK := known18 run_as ws
  go_wp2_with fail
  go_at_call 14
  refine KK.mono ?_
  rintro e wz ⟨rfl, hb⟩
  have HB2 : Hid (Below w.heap.size w wz) := HB.out.trans (hb.mono HB.out.size)
  clear KK hb
  go_wp2
  go_ret
  exact ⟨rfl, HB2.out⟩

end Go.Proofs.Ytgcofidkgohogaa
