/-
  PairKnown, way 0.
-/
import Derived.Test.YtajmbcbochjfmaaPairKnownW
import Derived.Test.YtajmbcbochjfmaaPairRun
import Derived.Test.YtajmbcbochjfmaaKnown19
import Derived.Test.YtajmbcbochjfmaaRowBase
namespace Go.Proofs.Ytajmbcbochjfmaa
open Go.RowKit
set_option linter.unusedVariables false
set_option linter.unusedSimpArgs false

set_option maxHeartbeats 16000000 in
set_option maxRecDepth 100000 in
theorem pairKnown0 (w : World) : Calls Try.prog 6 #[.int .i64 0] w fun e w' => e = .returned (.bool true) ∧ Below w.heap.size w w' := by
  obtain ⟨w0, hw0⟩ : ∃ x, x = (((w.alloc (.cells #[.int .i64 1, .int .i64 0, .int .i64 1, .int .i64 5, .int .i64 3, .int .i64 0, .int .i64 9] 31)).alloc (.cells #[.int .i64 2, .int .i64 1, .int .i64 0, .int .i64 5, .int .i64 3, .int .i64 0, .int .i64 9] 31)).alloc (.cells #[.int .i64 3, .int .i64 1, .int .i64 2, .int .i64 50, .int .i64 2, .int .i64 0, .int .i64 9] 31)).alloc (.cells #[.int .i64 4, .int .i64 1, .int .i64 0, .int .i64 6, .int .i64 3, .int .i64 0, .int .i64 9] 31) := ⟨_, rfl⟩
  obtain ⟨bq, hbq⟩ : ∃ x, w.heap.size + 1 = x := ⟨_, rfl⟩
  obtain ⟨bu, hbu⟩ : ∃ x, bq + 1 = x := ⟨_, rfl⟩
  obtain ⟨br, hbr⟩ : ∃ x, bu + 1 = x := ⟨_, rfl⟩
  have q1 : Below w.heap.size w (w.alloc (.cells #[.int .i64 1, .int .i64 0, .int .i64 1, .int .i64 5, .int .i64 3, .int .i64 0, .int .i64 9] 31)) := box_below _ _
  have q2 : Below w.heap.size w ((w.alloc (.cells #[.int .i64 1, .int .i64 0, .int .i64 1, .int .i64 5, .int .i64 3, .int .i64 0, .int .i64 9] 31)).alloc (.cells #[.int .i64 2, .int .i64 1, .int .i64 0, .int .i64 5, .int .i64 3, .int .i64 0, .int .i64 9] 31)) := q1.alloc q1.size _
  have q3 : Below w.heap.size w (((w.alloc (.cells #[.int .i64 1, .int .i64 0, .int .i64 1, .int .i64 5, .int .i64 3, .int .i64 0, .int .i64 9] 31)).alloc (.cells #[.int .i64 2, .int .i64 1, .int .i64 0, .int .i64 5, .int .i64 3, .int .i64 0, .int .i64 9] 31)).alloc (.cells #[.int .i64 3, .int .i64 1, .int .i64 2, .int .i64 50, .int .i64 2, .int .i64 0, .int .i64 9] 31)) := q2.alloc q2.size _
  have B0 : Hid (Below w.heap.size w w0) := by rw [hw0]; exact q3.alloc q3.size _
  have Sp : Hid (PBox w0 w.heap.size (1, 0, 1, 5, 3, 0, 9)) := by rw [hw0]; exact (((PBox.new w (1, 0, 1, 5, 3, 0, 9)).below (box_below _ _)).below (box_below _ _)).below (box_below _ _)
  have Sq : Hid (PBox w0 bq (2, 1, 0, 5, 3, 0, 9)) := by
    have := ((PBox.new (w.alloc (.cells #[.int .i64 1, .int .i64 0, .int .i64 1, .int .i64 5, .int .i64 3, .int .i64 0, .int .i64 9] 31)) (2, 1, 0, 5, 3, 0, 9)).below (box_below _ (.cells #[.int .i64 3, .int .i64 1, .int .i64 2, .int .i64 50, .int .i64 2, .int .i64 0, .int .i64 9] 31))).below (box_below _ (.cells #[.int .i64 4, .int .i64 1, .int .i64 0, .int .i64 6, .int .i64 3, .int .i64 0, .int .i64 9] 31))
    rw [size_alloc, hbq] at this
    rw [hw0]
    exact this
  have Su : Hid (PBox w0 bu (3, 1, 2, 50, 2, 0, 9)) := by
    have := (PBox.new ((w.alloc (.cells #[.int .i64 1, .int .i64 0, .int .i64 1, .int .i64 5, .int .i64 3, .int .i64 0, .int .i64 9] 31)).alloc (.cells #[.int .i64 2, .int .i64 1, .int .i64 0, .int .i64 5, .int .i64 3, .int .i64 0, .int .i64 9] 31)) (3, 1, 2, 50, 2, 0, 9)).below (box_below _ (.cells #[.int .i64 4, .int .i64 1, .int .i64 0, .int .i64 6, .int .i64 3, .int .i64 0, .int .i64 9] 31))
    rw [size_alloc, size_alloc, hbq, hbu] at this
    rw [hw0]
    exact this
  have Sr : Hid (PBox w0 br (4, 1, 0, 6, 3, 0, 9)) := by
    have := PBox.new (((w.alloc (.cells #[.int .i64 1, .int .i64 0, .int .i64 1, .int .i64 5, .int .i64 3, .int .i64 0, .int .i64 9] 31)).alloc (.cells #[.int .i64 2, .int .i64 1, .int .i64 0, .int .i64 5, .int .i64 3, .int .i64 0, .int .i64 9] 31)).alloc (.cells #[.int .i64 3, .int .i64 1, .int .i64 2, .int .i64 50, .int .i64 2, .int .i64 0, .int .i64 9] 31)) (4, 1, 0, 6, 3, 0, 9)
    rw [size_alloc, size_alloc, size_alloc, hbq, hbu, hbr] at this
    rw [hw0]
    exact this
  have HS0 : Hid (w0.heap.size = br + 1) := by show _ = _; rw [hw0, size_alloc, size_alloc, size_alloc, size_alloc, hbq, hbu, hbr]
  have HBN : Hid (bq = w.heap.size + 1 ∧ bu = bq + 1 ∧ br = bu + 1) := ⟨hbq.symm, hbu.symm, hbr.symm⟩
  clear q1 q2 q3
  have S := some_zero [] 0 none 0 0 w0 (Sl.nil _ _ _) (by omega) (by decide) (by decide) (by decide)
  obtain ⟨H, hH⟩ : ∃ H, w0.heap.size = H := ⟨_, rfl⟩
  have HH : Hid (H = br + 1) := by show _ = _; rw [← hH, HS0.out]
  unfold SomeEnd3 at S
  rw [hH] at S
  clear hH
  obtain ⟨sB, hsB⟩ : ∃ x, H + 4 = x := ⟨_, rfl⟩
  obtain ⟨sM, hsM⟩ : ∃ x, H + 5 = x := ⟨_, rfl⟩
  obtain ⟨sP, hsP⟩ : ∃ x, H + 9 = x := ⟨_, rfl⟩
  have HLIES : Hid (sB = H + 4 ∧ sM = H + 5 ∧ sP = H + 9) := ⟨hsB.symm, hsM.symm, hsP.symm⟩
  clear hsB hsM hsP
  go_enter Try.func6, Try.ntmps6
  go_upto_region 5 with fail
  rw [← hw0]
  try rw [hbq]
  try rw [hbu]
  try rw [hbr]
  clear hw0 hbq hbu hbr
  go_wp2_with fail
  go_at_call 7
  refine S.mono ?_
  rintro e w1 ⟨g, vc, he, lay, bel⟩
  have he : e = .returned (.agg #[.slice (some ⟨g, 0, none⟩) 3 vc, .slice (some ⟨sB, 0, none⟩) 3 3, .slice (some ⟨sM, 0, none⟩) 3 3, .slice (some ⟨sP, 0, none⟩) 3 3]) := by rw [he, HLIES.out.1, HLIES.out.2.1, HLIES.out.2.2]; rfl
  subst he
  have b1 : Below w0.heap.size w0 w1 := bel.mono (by rw [HH.out, HS0.out]; omega)
  obtain ⟨w2, hw2⟩ : ∃ w2, w2 = w1.alloc (.cells #[.slice (some ⟨g, 0, none⟩) 3 vc, .slice (some ⟨sB, 0, none⟩) 3 3, .slice (some ⟨sM, 0, none⟩) 3 3, .slice (some ⟨sP, 0, none⟩) 3 3] 27) := ⟨_, rfl⟩
  obtain ⟨z, hz⟩ : ∃ z, w1.heap.size = z := ⟨_, rfl⟩
  have b2 : Below w0.heap.size w0 w2 := by rw [hw2]; exact b1.trans ((box_below _ _).mono b1.size)
  have HGT : Hid (H + 10 < g ∧ g < z) := ⟨lay.gt, by rw [← hz]; exact lay.lt⟩
  have HL : Hid (Lay4 w2 H z g vc [(0, 0, 0), (0, 0, 0), (0, 0, 0)] [-1, -1, -1] [-1, -1, -1] [-1, -1, -1] [-1, -1, -1] [0, 0, 0] [0, 0, 0] [0, 0, 0]) := by
    refine ⟨by rw [hw2]; exact lay.below (box_below _ _), HGT.out.2, ?_⟩
    rw [hw2, ← hz, HLIES.out.1, HLIES.out.2.1, HLIES.out.2.2]
    exact heap_alloc_new w1 _
  have HB : Hid (Below w.heap.size w w2) := B0.out.trans (b2.mono B0.out.size)
  have Pp : Hid (PBox w2 w.heap.size (1, 0, 1, 5, 3, 0, 9)) := Sp.out.below b2
  have Pq : Hid (PBox w2 bq (2, 1, 0, 5, 3, 0, 9)) := Sq.out.below b2
  have Pu : Hid (PBox w2 bu (3, 1, 2, 50, 2, 0, 9)) := Su.out.below b2
  have Pr : Hid (PBox w2 br (4, 1, 0, 6, 3, 0, 9)) := Sr.out.below b2
  have HALL : Hid (bq = w.heap.size + 1 ∧ bu = bq + 1 ∧ br = bu + 1 ∧ H = br + 1 ∧ H + 10 < g ∧ g < z) := ⟨HBN.out.1, HBN.out.2.1, HBN.out.2.2, HH.out, HGT.out.1, HGT.out.2⟩
  clear S lay bel b1 b2 B0 Sp Sq Su Sr HS0 HBN HH HGT
  go_upto_region 6 with fail
  rw [← hw2]
  clear hw2
  try rw [hz]
  clear hz
  go_upto_region 8 with fail
  have NB : Hid (Bk w2 ⟨some ⟨g, 0, none⟩, 3, vc, some ⟨sB, 0, none⟩, 3, 3, some ⟨sM, 0, none⟩, 3, 3, some ⟨sP, 0, none⟩, 3, 3⟩ ⟨[(0, 0, 0), (0, 0, 0), (0, 0, 0)], [[-1, -1, -1], [-1, -1, -1], [-1, -1, -1]], [-1, -1, -1], [[0, 0, 0], [0, 0, 0], [0, 0, 0]]⟩) := by
    have := HL.out.bk4 ⟨rfl, rfl, rfl, rfl, rfl, rfl, rfl⟩ (by show ∀ z ∈ _, ∀ n ∈ z, IntKind.i64.wrap n = n; decide) (by show ∀ n ∈ _, IntKind.i64.wrap n = n; decide) (by show ∀ z ∈ _, ∀ n ∈ z, IntKind.i64.wrap n = n; decide)
    rw [HLIES.out.1, HLIES.out.2.1, HLIES.out.2.2]
    exact this
  have CC := runQ_any ⟨some ⟨g, 0, none⟩, 3, vc, some ⟨sB, 0, none⟩, 3, 3, some ⟨sM, 0, none⟩, 3, 3, some ⟨sP, 0, none⟩, 3, 3⟩ ⟨[(0, 0, 0), (0, 0, 0), (0, 0, 0)], [[-1, -1, -1], [-1, -1, -1], [-1, -1, -1]], [-1, -1, -1], [[0, 0, 0], [0, 0, 0], [0, 0, 0]]⟩ (some ⟨w2.heap.size, 0, none⟩) 3 3 [(1, 0, 1, 5, 3, 0, 9), (3, 1, 2, 50, 2, 0, 9), (2, 1, 0, 5, 3, 0, 9)] 1 _ (NB.out.below (box_below w2 _)) pk0_good (PGood.lits3 w2 (1, 0, 1, 5, 3, 0, 9) (3, 1, 2, 50, 2, 0, 9) (2, 1, 0, 5, 3, 0, 9)) pk0_que pk0_fr
  have HD : Hid ((runQ ⟨[(0, 0, 0), (0, 0, 0), (0, 0, 0)], [[-1, -1, -1], [-1, -1, -1], [-1, -1, -1]], [-1, -1, -1], [[0, 0, 0], [0, 0, 0], [0, 0, 0]]⟩ [(1, 0, 1, 5, 3, 0, 9), (3, 1, 2, 50, 2, 0, 9), (2, 1, 0, 5, 3, 0, 9)] 1).2.2 = []) := pk0_done
  generalize runQ ⟨[(0, 0, 0), (0, 0, 0), (0, 0, 0)], [[-1, -1, -1], [-1, -1, -1], [-1, -1, -1]], [-1, -1, -1], [[0, 0, 0], [0, 0, 0], [0, 0, 0]]⟩ [(1, 0, 1, 5, 3, 0, 9), (3, 1, 2, 50, 2, 0, 9), (2, 1, 0, 5, 3, 0, 9)] 1 = R at CC HD
  have x0 : w2.cell? ⟨z, 0, none⟩ = some (.slice (some ⟨g, 0, none⟩) 3 vc) := HL.out.cell rfl
  have x1 : w2.cell? ⟨z, 1, none⟩ = some (.slice (some ⟨sB, 0, none⟩) 3 3) := by rw [HLIES.out.1]; exact HL.out.cell rfl
  have x2 : w2.cell? ⟨z, 2, none⟩ = some (.slice (some ⟨sM, 0, none⟩) 3 3) := by rw [HLIES.out.2.1]; exact HL.out.cell rfl
  have x3 : w2.cell? ⟨z, 3, none⟩ = some (.slice (some ⟨sP, 0, none⟩) 3 3) := by rw [HLIES.out.2.2]; exact HL.out.cell rfl
  obtain ⟨p0, p1, p2, p3, p4, p5, p6⟩ := Pp.out.at7
  simp only [P7.id, P7.fr, P7.to, P7.am, P7.cl, P7.st, P7.ti] at p0 p1 p2 p3 p4 p5 p6
  obtain ⟨u0, u1, u2, u3, u4, u5, u6⟩ := Pu.out.at7
  simp only [P7.id, P7.fr, P7.to, P7.am, P7.cl, P7.st, P7.ti] at u0 u1 u2 u3 u4 u5 u6
  obtain ⟨q0, q1, q2, q3, q4, q5, q6⟩ := Pq.out.at7
  simp only [P7.id, P7.fr, P7.to, P7.am, P7.cl, P7.st, P7.ti] at q0 q1 q2 q3 q4 q5 q6
  go_wp2_with fail
  go_at_call 11
  refine CC.mono ?_
  rintro e w5 ⟨y, al, nl, cl, ad, nd, cd, rfl, -, -, gl, -, gd, -, hb⟩
  obtain ⟨yA, mA, eA, yB, mB, eB, yM, mM, eM, yP, mP, eP⟩ := y
  obtain ⟨w6, hw6⟩ : ∃ x, x = w5.alloc (.cells #[.slice yA mA eA, .slice yB mB eB, .slice yM mM eM, .slice yP mP eP] 27) := ⟨_, rfl⟩
  have b56 : Below w5.heap.size w5 w6 := by rw [hw6]; exact box_below _ _
  have b6 : Below w2.heap.size w2 w6 := (box_below w2 _).trans ((hb.trans (b56.mono hb.size)).mono (by rw [size_alloc]; omega))
  have HB2 : Hid (Below w.heap.size w w6) := HB.out.trans (b6.mono HB.out.size)
  have GD : Hid (PGood w6 ad nd cd []) := by rw [← HD.out]; exact gd.below b56
  obtain rfl : nd = 0 := GD.out.len
  clear CC hb b56 b6 gl gd NB HD x0 x1 x2 x3 p0 p1 p2 p3 p4 p5 p6 u0 u1 u2 u3 u4 u5 u6 q0 q1 q2 q3 q4 q5 q6 HL HB Pp Pq Pu Pr HALL HLIES
  go_upto_region 9 with fail
  rw [← hw6]
  clear hw6
  have KK := known19 runQ_as w6
  go_wp2_with fail
  go_at_call 14
  refine KK.mono ?_
  rintro e wz ⟨rfl, hb⟩
  have HB3 : Hid (Below w.heap.size w wz) := HB2.out.trans (hb.mono HB2.out.size)
  clear KK hb
  go_wp2
  go_ret
  exact ⟨rfl, HB3.out⟩

end Go.Proofs.Ytajmbcbochjfmaa
