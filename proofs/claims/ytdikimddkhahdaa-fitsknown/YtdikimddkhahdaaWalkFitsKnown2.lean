/-
  FitsKnown, way 2.
-/
import Derived.Test.YtdikimddkhahdaaFitsLits
import Derived.Test.YtdikimddkhahdaaRowRefs
import Derived.Test.YtdikimddkhahdaaRowBase
namespace Go.Proofs.Ytdikimddkhahdaa
open Go.RowKit
set_option linter.unusedVariables false
set_option linter.unusedSimpArgs false

namespace Walk

set_option maxHeartbeats 8000000 in
set_option maxRecDepth 100000 in
theorem fitsKnown2 (w : World) : Calls Try.prog 8 #[.int .i64 2] w fun e w' => e = .returned (.bool true) ∧ Below w.heap.size w w' := by
  have S := some_zero [10, 10, 0] 0 (some ⟨w.heap.size, 0, none⟩) 3 3 (w.alloc (.cells #[.int .i64 10, .int .i64 10, .int .i64 0] 2)) (Sl.new .i64 w 2 (0, 0) [10, 10, 0] (by decide)) (by omega) (by decide) (by decide) (by decide)
  obtain ⟨H, hH⟩ : ∃ H, (w.alloc (.cells #[.int .i64 10, .int .i64 10, .int .i64 0] 2)).heap.size = H := ⟨_, rfl⟩
  have HH : Hid (H = w.heap.size + 1) := by show _ = _; rw [← hH, size_alloc]
  unfold SomeEnd3 at S
  rw [hH] at S
  clear hH
  obtain ⟨b0, hb0⟩ : ∃ x, H + 1 = x := ⟨_, rfl⟩
  obtain ⟨sB, hsB⟩ : ∃ x, H + 4 = x := ⟨_, rfl⟩
  obtain ⟨sM, hsM⟩ : ∃ x, H + 5 = x := ⟨_, rfl⟩
  obtain ⟨p0, hp0⟩ : ∃ x, H + 6 = x := ⟨_, rfl⟩
  obtain ⟨p1, hp1⟩ : ∃ x, H + 7 = x := ⟨_, rfl⟩
  obtain ⟨sP, hsP⟩ : ∃ x, H + 9 = x := ⟨_, rfl⟩
  have HLIES : Hid (b0 = H + 1 ∧ sB = H + 4 ∧ sM = H + 5 ∧ p0 = H + 6 ∧ p1 = H + 7 ∧ sP = H + 9) := ⟨hb0.symm, hsB.symm, hsM.symm, hp0.symm, hp1.symm, hsP.symm⟩
  have K := known15
  clear hb0 hsB hsM hp0 hp1 hsP
  go_enter Try.func8, Try.ntmps8
  go_wp2_with fail
  go_at_call 19
  refine S.mono ?_
  rintro e w1 ⟨g, vc, he, lay, bel⟩
  have he : e = .returned (.agg #[.slice (some ⟨g, 0, none⟩) 3 vc, .slice (some ⟨sB, 0, none⟩) 3 3, .slice (some ⟨sM, 0, none⟩) 3 3, .slice (some ⟨sP, 0, none⟩) 3 3]) := by rw [he, HLIES.out.2.1, HLIES.out.2.2.1, HLIES.out.2.2.2.2.2]; rfl
  subst he
  have B1 : Hid (Below w.heap.size w w1) := (box_below _ _).trans (bel.mono (by rw [HH.out]; omega))
  obtain ⟨w2, hw2⟩ : ∃ w2, w2 = w1.alloc (.cells #[.slice (some ⟨g, 0, none⟩) 3 vc, .slice (some ⟨sB, 0, none⟩) 3 3, .slice (some ⟨sM, 0, none⟩) 3 3, .slice (some ⟨sP, 0, none⟩) 3 3] 26) := ⟨_, rfl⟩
  obtain ⟨z, hz⟩ : ∃ z, w1.heap.size = z := ⟨_, rfl⟩
  have HGT : Hid (H + 10 < g ∧ g < z) := ⟨lay.gt, by rw [← hz]; exact lay.lt⟩
  have L2 : Hid (Lay4 w2 H z g vc [(10, 0, 0), (10, 0, 0), (0, 0, 0)] [-1, -1, -1] [-1, -1, -1] [-1, -1, -1] [-1, -1, -1] [0, 0, 0] [0, 0, 0] [0, 0, 0]) := by
    refine ⟨by rw [hw2]; exact lay.below (box_below _ _), HGT.out.2, ?_⟩
    rw [hw2, ← hz, HLIES.out.2.1, HLIES.out.2.2.1, HLIES.out.2.2.2.2.2]
    exact heap_alloc_new w1 _
  have B2 : Hid (Below w.heap.size w w2) := by rw [hw2]; exact B1.out.alloc B1.out.size _
  clear S lay bel B1
  go_upto_region 2 with fail
  rw [← hw2]
  have HZ2 : Hid (z < w2.heap.size) := by show _ < _; rw [hw2, size_alloc, hz]; omega
  clear hw2 hz
  go_wp2_with fail
  go_at_call 23
  refine (func3_any _).mono ?_
  rintro e w3 ⟨f, rfl, hf, hp, hb⟩
  have HZF : Hid (z < f) := by have := HZ2.out; show z < f; omega
  have HL : Hid (Lay4 w3 H z g vc [(10, 0, 0), (10, 0, 0), (0, 0, 0)] [-1, -1, -1] [-1, -1, -1] [-1, -1, -1] [-1, -1, -1] [0, 0, 0] [0, 0, 0] [0, 0, 0]) := L2.out.below hb
  have HP : Hid (PBlk w3 f four) := hp
  have HB : Hid (Below w.heap.size w w3) := B2.out.trans (hb.mono B2.out.size)
  have HALL : Hid (b0 = H + 1 ∧ sB = H + 4 ∧ sM = H + 5 ∧ p0 = H + 6 ∧ p1 = H + 7 ∧ sP = H + 9 ∧ H + 10 < g ∧ g < z ∧ z < f ∧ H = w.heap.size + 1) := by
    have h1 := HLIES.out
    have h2 := HGT.out
    have h3 := HZF.out
    have h4 := HH.out
    show _ ∧ _
    omega
  clear hf hp hb L2 B2 HZ2 HGT HH
  go_upto_region 14 with fail
  obtain ⟨w4, hw4⟩ : ∃ x, x = (w3.setCell ⟨sM, 0, none⟩ (.int .i64 4)) := ⟨_, rfl⟩
  have L4 : Hid (Lay4 w4 H z g vc [(10, 0, 0), (10, 0, 0), (0, 0, 0)] [-1, -1, -1] [-1, -1, -1] [-1, -1, -1] [4, -1, -1] [0, 0, 0] [0, 0, 0] [0, 0, 0]) := by rw [hw4]; have e := HLIES.out.2.2.1; rw [e]; exact (HL.out.setM 0 4)
  have P4 : Hid (PBlk w4 f [(1, 0, 1, 1, 3, 0, 0), (2, 0, 1, 1, 3, 0, 0), (3, 0, 2, 3, 3, 0, 0), (4, 1, 0, 2, 3, 0, 0)]) := by rw [hw4]; exact (HP.out.far (by have := HALL.out; omega) 0 (.int .i64 4))
  have B4 : Hid (Below w.heap.size w w4) := by rw [hw4]; exact (HB.out.setCell (p := ⟨sM, 0, none⟩) (by have := HALL.out; show w.heap.size ≤ sM; omega) (.int .i64 4))
  have x2 : w3.cell? ⟨z, 2, none⟩ = some (.slice (some ⟨sM, 0, none⟩) 3 3) := by rw [HLIES.out.2.2.1]; exact HL.out.cell rfl
  have c0 : w3.cell? ⟨sM, 0, none⟩ = some (.int .i64 (-1)) := by rw [HLIES.out.2.2.1]; exact HL.out.lay.mul.cell (i := 0) (by simp)
  have f0 : w3.frozen? ⟨sM, 0, none⟩ = false := by rw [HLIES.out.2.2.1]; exact HL.out.lay.mul.free 0
  go_upto_region 15 with fail
  rw [← hw4]
  clear hw4 x2 c0 f0 HL HP HB
  have HL := L4
  have HP := P4
  have HB := B4
  clear L4 P4 B4
  go_upto_region 15 with fail
  obtain ⟨w5, hw5⟩ : ∃ x, x = (w4.setCell ⟨f, 3, none⟩ (.int .i64 3)) := ⟨_, rfl⟩
  have L5 : Hid (Lay4 w5 H z g vc [(10, 0, 0), (10, 0, 0), (0, 0, 0)] [-1, -1, -1] [-1, -1, -1] [-1, -1, -1] [4, -1, -1] [0, 0, 0] [0, 0, 0] [0, 0, 0]) := by rw [hw5]; exact (HL.out.far HZF.out 3 (.int .i64 3))
  have P5 : Hid (PBlk w5 f [(1, 0, 1, 3, 3, 0, 0), (2, 0, 1, 1, 3, 0, 0), (3, 0, 2, 3, 3, 0, 0), (4, 1, 0, 2, 3, 0, 0)]) := by rw [hw5]; exact (HP.out.set 3 (.int .i64 3) [(1, 0, 1, 3, 3, 0, 0), (2, 0, 1, 1, 3, 0, 0), (3, 0, 2, 3, 3, 0, 0), (4, 1, 0, 2, 3, 0, 0)] rfl)
  have B5 : Hid (Below w.heap.size w w5) := by rw [hw5]; exact (HB.out.setCell (p := ⟨f, 3, none⟩) (by have := HALL.out; show w.heap.size ≤ f; omega) (.int .i64 3))
  have c0 : w4.cell? ⟨f, 3, none⟩ = some (.int .i64 1) := HP.out.cell rfl
  have f0 := HP.out.free 3
  go_upto_region 16 with fail
  rw [← hw5]
  clear hw5 c0 f0 HL HP HB
  have HL := L5
  have HP := P5
  have HB := B5
  clear L5 P5 B5
  go_upto_region 16 with fail
  obtain ⟨w6, hw6⟩ : ∃ x, x = (w5.setCell ⟨f, 17, none⟩ (.int .i64 2)) := ⟨_, rfl⟩
  have L6 : Hid (Lay4 w6 H z g vc [(10, 0, 0), (10, 0, 0), (0, 0, 0)] [-1, -1, -1] [-1, -1, -1] [-1, -1, -1] [4, -1, -1] [0, 0, 0] [0, 0, 0] [0, 0, 0]) := by rw [hw6]; exact (HL.out.far HZF.out 17 (.int .i64 2))
  have P6 : Hid (PBlk w6 f [(1, 0, 1, 3, 3, 0, 0), (2, 0, 1, 1, 3, 0, 0), (3, 0, 2, 2, 3, 0, 0), (4, 1, 0, 2, 3, 0, 0)]) := by rw [hw6]; exact (HP.out.set 17 (.int .i64 2) [(1, 0, 1, 3, 3, 0, 0), (2, 0, 1, 1, 3, 0, 0), (3, 0, 2, 2, 3, 0, 0), (4, 1, 0, 2, 3, 0, 0)] rfl)
  have B6 : Hid (Below w.heap.size w w6) := by rw [hw6]; exact (HB.out.setCell (p := ⟨f, 17, none⟩) (by have := HALL.out; show w.heap.size ≤ f; omega) (.int .i64 2))
  have c0 : w5.cell? ⟨f, 17, none⟩ = some (.int .i64 3) := HP.out.cell rfl
  have f0 := HP.out.free 17
  go_upto_region 17 with fail
  rw [← hw6]
  clear hw6 c0 f0 HL HP HB
  have HL := L6
  have HP := P6
  have HB := B6
  clear L6 P6 B6
  obtain ⟨bk, hbk⟩ : ∃ bk : Bks, bk = ⟨[(10, 0, 0), (10, 0, 0), (0, 0, 0)], [[-1, -1, -1], [-1, -1, -1], [-1, -1, -1]], [4, -1, -1], [[0, 0, 0], [0, 0, 0], [0, 0, 0]]⟩ := ⟨_, rfl⟩
  have GB : Hid (Good bk) := by rw [hbk]; exact booksB_yes.1 (by decide +kernel)
  have NB : Hid (Bk w6 ⟨some ⟨g, 0, none⟩, 3, vc, some ⟨sB, 0, none⟩, 3, 3, some ⟨sM, 0, none⟩, 3, 3, some ⟨sP, 0, none⟩, 3, 3⟩ bk) := by
    have := HL.out.bk ⟨rfl, rfl, rfl, rfl, rfl, rfl, rfl⟩ (by show ∀ z ∈ _, ∀ n ∈ z, IntKind.i64.wrap n = n; decide) (by show ∀ n ∈ _, IntKind.i64.wrap n = n; decide) (by show ∀ z ∈ _, ∀ n ∈ z, IntKind.i64.wrap n = n; decide)
    rw [hbk, HLIES.out.2.1, HLIES.out.2.2.1, HLIES.out.2.2.2.2.2]
    exact this
  have A0 : Hid (fitsB bk [(1, 0, 1, 3, 3, 0, 0)] = true) := by rw [hbk]; show _ = _; decide +kernel
  have A1 : Hid (fitsB bk [(1, 0, 1, 3, 3, 0, 0), (3, 0, 2, 2, 3, 0, 0)] = false) := by rw [hbk]; show _ = _; decide +kernel
  have A2 : Hid (fitsB bk [(1, 0, 1, 3, 3, 0, 0), (3, 0, 2, 2, 3, 0, 0), (4, 1, 0, 2, 3, 0, 0)] = true) := by rw [hbk]; show _ = _; decide +kernel
  have C : Hid (∀ (a : Option Addr) (n c : Nat) (L : List P7) (u : World), Below w6.heap.size w6 u → PGood u a n c L → Calls Try.prog 12 #[.agg #[.slice (some ⟨g, 0, none⟩) 3 vc, .slice (some ⟨sB, 0, none⟩) 3 3, .slice (some ⟨sM, 0, none⟩) 3 3, .slice (some ⟨sP, 0, none⟩) 3 3], .slice a n c] u fun e w' => e = .returned (.bool (fitsB bk L)) ∧ Below u.heap.size u w') := fun a n c L u hu hg => fitsFits_any ⟨some ⟨g, 0, none⟩, 3, vc, some ⟨sB, 0, none⟩, 3, 3, some ⟨sM, 0, none⟩, 3, 3, some ⟨sP, 0, none⟩, 3, 3⟩ bk a n c L u (NB.out.below hu) GB.out hg
  clear hbk NB GB
  have Y0 : Hid (At7 w6 f 0 (1, 0, 1, 3, 3, 0, 0)) := ⟨HP.out.cell rfl, HP.out.cell rfl, HP.out.cell rfl, HP.out.cell rfl, HP.out.cell rfl, HP.out.cell rfl, HP.out.cell rfl⟩
  have Y2 : Hid (At7 w6 f 14 (3, 0, 2, 2, 3, 0, 0)) := ⟨HP.out.cell rfl, HP.out.cell rfl, HP.out.cell rfl, HP.out.cell rfl, HP.out.cell rfl, HP.out.cell rfl, HP.out.cell rfl⟩
  have Y3 : Hid (At7 w6 f 21 (4, 1, 0, 2, 3, 0, 0)) := ⟨HP.out.cell rfl, HP.out.cell rfl, HP.out.cell rfl, HP.out.cell rfl, HP.out.cell rfl, HP.out.cell rfl, HP.out.cell rfl⟩
  have X : Hid (Box4 w6 z ⟨some ⟨g, 0, none⟩, 3, vc, some ⟨sB, 0, none⟩, 3, 3, some ⟨sM, 0, none⟩, 3, 3, some ⟨sP, 0, none⟩, 3, 3⟩) := by
    refine ⟨HL.out.cell rfl, ?_, ?_, ?_⟩
    · show _ = some (Value.slice (some ⟨sB, 0, none⟩) 3 3)
      rw [HLIES.out.2.1]; exact HL.out.cell rfl
    · show _ = some (Value.slice (some ⟨sM, 0, none⟩) 3 3)
      rw [HLIES.out.2.2.1]; exact HL.out.cell rfl
    · show _ = some (Value.slice (some ⟨sP, 0, none⟩) 3 3)
      rw [HLIES.out.2.2.2.2.2]; exact HL.out.cell rfl
  clear HL HP HALL HLIES HZF
  refine region_owes (L := [Fact.is (.agg #[.slice (some ⟨g, 0, none⟩) 3 vc, .slice (some ⟨sB, 0, none⟩) 3 3, .slice (some ⟨sM, 0, none⟩) 3 3, .slice (some ⟨sP, 0, none⟩) 3 3]),
    Fact.is (.slice (some ⟨f, 0, none⟩) 4 4),
    Fact.is (.pointer (some ⟨f, 0, none⟩)),
    Fact.is (.agg #[.int .i64 1, .int .i64 0, .int .i64 1, .int .i64 3, .int .i64 3, .int .i64 0, .int .i64 0]),
    Fact.pnew 0 [(1, 0, 1, 3, 3, 0, 0)],
    Fact.is (.bool true),
    Fact.is (.bool true),
    Fact.is (.agg #[.slice (some ⟨g, 0, none⟩) 3 vc, .slice (some ⟨sB, 0, none⟩) 3 3, .slice (some ⟨sM, 0, none⟩) 3 3, .slice (some ⟨sP, 0, none⟩) 3 3]),
    Fact.is (.slice (some ⟨f, 0, none⟩) 4 4),
    Fact.is (.pointer (some ⟨f, 0, none⟩)),
    Fact.is (.agg #[.int .i64 1, .int .i64 0, .int .i64 1, .int .i64 3, .int .i64 3, .int .i64 0, .int .i64 0]),
    Fact.is (.slice (some ⟨f, 0, none⟩) 4 4),
    Fact.is (.pointer (some ⟨f, 14, none⟩)),
    Fact.is (.agg #[.int .i64 3, .int .i64 0, .int .i64 2, .int .i64 2, .int .i64 3, .int .i64 0, .int .i64 0]),
    Fact.pnew 0 [(1, 0, 1, 3, 3, 0, 0), (3, 0, 2, 2, 3, 0, 0)],
    Fact.is (.bool false),
    Fact.is (.bool true),
    Fact.is (.bool true),
    Fact.is (.bool true),
    Fact.is (.agg #[.slice (some ⟨g, 0, none⟩) 3 vc, .slice (some ⟨sB, 0, none⟩) 3 3, .slice (some ⟨sM, 0, none⟩) 3 3, .slice (some ⟨sP, 0, none⟩) 3 3]),
    Fact.is (.slice (some ⟨f, 0, none⟩) 4 4),
    Fact.is (.pointer (some ⟨f, 0, none⟩)),
    Fact.is (.agg #[.int .i64 1, .int .i64 0, .int .i64 1, .int .i64 3, .int .i64 3, .int .i64 0, .int .i64 0]),
    Fact.is (.slice (some ⟨f, 0, none⟩) 4 4),
    Fact.is (.pointer (some ⟨f, 14, none⟩)),
    Fact.is (.agg #[.int .i64 3, .int .i64 0, .int .i64 2, .int .i64 2, .int .i64 3, .int .i64 0, .int .i64 0]),
    Fact.is (.slice (some ⟨f, 0, none⟩) 4 4),
    Fact.is (.pointer (some ⟨f, 21, none⟩)),
    Fact.is (.agg #[.int .i64 4, .int .i64 1, .int .i64 0, .int .i64 2, .int .i64 3, .int .i64 0, .int .i64 0]),
    Fact.pnew 0 [(1, 0, 1, 3, 3, 0, 0), (3, 0, 2, 2, 3, 0, 0), (4, 1, 0, 2, 3, 0, 0)],
    Fact.is (.bool true),
    Fact.is (.bool true),
    Fact.is (.bool true),
    Fact.is (.bool true),
    Fact.is (.bool true),
    Fact.is (.bool true)])
    (T := [93, 94, 95, 96, 97, 98, 99, 100, 101, 102, 103, 104, 105, 106, 107, 108, 109, 110, 111, 112, 113, 114, 115, 116, 117, 118, 119, 120, 121, 122, 123, 124, 125, 126, 127, 2]) (by kernel_rfl) (by kernel_rfl) rfl ?owes ?_
  case owes =>
    refine .cons (owes_value fun q u lh => ⟨wants_free rfl, .agg #[.slice (some ⟨g, 0, none⟩) 3 vc, .slice (some ⟨sB, 0, none⟩) 3 3, .slice (some ⟨sM, 0, none⟩) 3 3, .slice (some ⟨sP, 0, none⟩) 3 3], by have e3 : q.tmps.getD 3 undef = .pointer (some ⟨z, 0, none⟩) := lh.old 3 rfl; obtain ⟨q0, q1, q2, q3⟩ := X.out.below lh.below; simp [execOp, Act.eval, e3, q0, q1, q2, q3, go_sem], rfl⟩) ?_
    refine .cons (owes_move (.tmp 4) (.inl rfl) fun q u lh => ⟨wants_free rfl, lh.old 4 rfl⟩) ?_
    refine .cons (owes_value fun q u lh => ⟨wants_free rfl, .pointer (some ⟨f, 0, none⟩), by have e94 : q.tmps.getD 94 undef = .slice (some ⟨f, 0, none⟩) 4 4 := lh.dep 1 rfl; simp [execOp, Act.eval, e94, go_sem], rfl⟩) ?_
    refine .cons (owes_value fun q u lh => ⟨wants_free rfl, .agg #[.int .i64 1, .int .i64 0, .int .i64 1, .int .i64 3, .int .i64 3, .int .i64 0, .int .i64 0], by have e95 : q.tmps.getD 95 undef = .pointer (some ⟨f, 0, none⟩) := lh.dep 2 rfl; obtain ⟨y0, y1, y2, y3, y4, y5, y6⟩ := Y0.out.below lh.below; simp [execOp, Act.eval, e95, y0, y1, y2, y3, y4, y5, y6, go_sem], rfl⟩) ?_
    refine .cons (owes_make fun q u lh => ⟨wants_free rfl, .slice (some ⟨u.heap.size, 0, none⟩) 1 1, u.alloc (.cells #[.int .i64 1, .int .i64 0, .int .i64 1, .int .i64 3, .int .i64 3, .int .i64 0, .int .i64 0] 31), by have e96 : q.tmps[96]?.getD undef = .agg #[.int .i64 1, .int .i64 0, .int .i64 1, .int .i64 3, .int .i64 3, .int .i64 0, .int .i64 0] := (Array.getD_eq_getD_getElem? ..).symm.trans (lh.dep 3 rfl); simp [execOp, Act.eval, e96, go_sem], box_below _ _, ⟨_, _, rfl, PGood.lit1 u (1, 0, 1, 3, 3, 0, 0), fun x hx => Nat.zero_le _⟩⟩) ?_
    refine .cons (owes_call 12 Try.func12 (by kernel_rfl) (by kernel_rfl) [.tmp 93, .tmp 97] #[26, 27] rfl fun q u lh => ⟨wants_free rfl, by have e93 : q.tmps.getD 93 undef = .agg #[.slice (some ⟨g, 0, none⟩) 3 vc, .slice (some ⟨sB, 0, none⟩) 3 3, .slice (some ⟨sM, 0, none⟩) 3 3, .slice (some ⟨sP, 0, none⟩) 3 3] := lh.dep 0 rfl; obtain ⟨aa, cc, ea, ga, -⟩ := lh.dep 4 rfl; have ea : q.tmps.getD 97 undef = .slice aa 1 cc := ea; show Calls Try.prog 12 #[q.tmps.getD 93 undef, q.tmps.getD 97 undef] u _; rw [e93, ea, ← A0.out]; exact bool_fact (C.out aa 1 cc _ u lh.below ga)⟩) ?_
    refine .cons (owes_move (.tmp 98) (.inl rfl) fun q u lh => ⟨wants_free rfl, lh.dep 5 rfl⟩) ?_
    refine .cons (owes_value fun q u lh => ⟨lh.wants1 6 true rfl rfl rfl, .agg #[.slice (some ⟨g, 0, none⟩) 3 vc, .slice (some ⟨sB, 0, none⟩) 3 3, .slice (some ⟨sM, 0, none⟩) 3 3, .slice (some ⟨sP, 0, none⟩) 3 3], by have e3 : q.tmps.getD 3 undef = .pointer (some ⟨z, 0, none⟩) := lh.old 3 rfl; obtain ⟨q0, q1, q2, q3⟩ := X.out.below lh.below; simp [execOp, Act.eval, e3, q0, q1, q2, q3, go_sem], rfl⟩) ?_
    refine .cons (owes_move (.tmp 4) (.inl rfl) fun q u lh => ⟨lh.wants1 6 true rfl rfl rfl, lh.old 4 rfl⟩) ?_
    refine .cons (owes_value fun q u lh => ⟨lh.wants1 6 true rfl rfl rfl, .pointer (some ⟨f, 0, none⟩), by have e101 : q.tmps.getD 101 undef = .slice (some ⟨f, 0, none⟩) 4 4 := lh.dep 8 rfl; simp [execOp, Act.eval, e101, go_sem], rfl⟩) ?_
    refine .cons (owes_value fun q u lh => ⟨lh.wants1 6 true rfl rfl rfl, .agg #[.int .i64 1, .int .i64 0, .int .i64 1, .int .i64 3, .int .i64 3, .int .i64 0, .int .i64 0], by have e102 : q.tmps.getD 102 undef = .pointer (some ⟨f, 0, none⟩) := lh.dep 9 rfl; obtain ⟨y0, y1, y2, y3, y4, y5, y6⟩ := Y0.out.below lh.below; simp [execOp, Act.eval, e102, y0, y1, y2, y3, y4, y5, y6, go_sem], rfl⟩) ?_
    refine .cons (owes_move (.tmp 4) (.inl rfl) fun q u lh => ⟨lh.wants1 6 true rfl rfl rfl, lh.old 4 rfl⟩) ?_
    refine .cons (owes_value fun q u lh => ⟨lh.wants1 6 true rfl rfl rfl, .pointer (some ⟨f, 14, none⟩), by have e104 : q.tmps.getD 104 undef = .slice (some ⟨f, 0, none⟩) 4 4 := lh.dep 11 rfl; simp [execOp, Act.eval, e104, go_sem], rfl⟩) ?_
    refine .cons (owes_value fun q u lh => ⟨lh.wants1 6 true rfl rfl rfl, .agg #[.int .i64 3, .int .i64 0, .int .i64 2, .int .i64 2, .int .i64 3, .int .i64 0, .int .i64 0], by have e105 : q.tmps.getD 105 undef = .pointer (some ⟨f, 14, none⟩) := lh.dep 12 rfl; obtain ⟨y0, y1, y2, y3, y4, y5, y6⟩ := Y2.out.below lh.below; simp [execOp, Act.eval, e105, y0, y1, y2, y3, y4, y5, y6, go_sem], rfl⟩) ?_
    refine .cons (owes_make fun q u lh => ⟨lh.wants1 6 true rfl rfl rfl, .slice (some ⟨u.heap.size, 0, none⟩) 2 2, u.alloc (.cells #[.int .i64 1, .int .i64 0, .int .i64 1, .int .i64 3, .int .i64 3, .int .i64 0, .int .i64 0, .int .i64 3, .int .i64 0, .int .i64 2, .int .i64 2, .int .i64 3, .int .i64 0, .int .i64 0] 31), by have e103 : q.tmps[103]?.getD undef = .agg #[.int .i64 1, .int .i64 0, .int .i64 1, .int .i64 3, .int .i64 3, .int .i64 0, .int .i64 0] := (Array.getD_eq_getD_getElem? ..).symm.trans (lh.dep 10 rfl); have e106 : q.tmps[106]?.getD undef = .agg #[.int .i64 3, .int .i64 0, .int .i64 2, .int .i64 2, .int .i64 3, .int .i64 0, .int .i64 0] := (Array.getD_eq_getD_getElem? ..).symm.trans (lh.dep 13 rfl); simp [execOp, Act.eval, e103, e106, go_sem], box_below _ _, ⟨_, _, rfl, PGood.lit2 u (1, 0, 1, 3, 3, 0, 0) (3, 0, 2, 2, 3, 0, 0), fun x hx => Nat.zero_le _⟩⟩) ?_
    refine .cons (owes_call 12 Try.func12 (by kernel_rfl) (by kernel_rfl) [.tmp 100, .tmp 107] #[26, 27] rfl fun q u lh => ⟨lh.wants1 6 true rfl rfl rfl, by have e100 : q.tmps.getD 100 undef = .agg #[.slice (some ⟨g, 0, none⟩) 3 vc, .slice (some ⟨sB, 0, none⟩) 3 3, .slice (some ⟨sM, 0, none⟩) 3 3, .slice (some ⟨sP, 0, none⟩) 3 3] := lh.dep 7 rfl; obtain ⟨aa, cc, ea, ga, -⟩ := lh.dep 14 rfl; have ea : q.tmps.getD 107 undef = .slice aa 2 cc := ea; show Calls Try.prog 12 #[q.tmps.getD 100 undef, q.tmps.getD 107 undef] u _; rw [e100, ea, ← A1.out]; exact bool_fact (C.out aa 2 cc _ u lh.below ga)⟩) ?_
    refine .cons (owes_value fun q u lh => ⟨lh.wants1 6 true rfl rfl rfl, .bool true, by have e108 : q.tmps.getD 108 undef = .bool false := lh.dep 15 rfl; simp [execOp, Act.eval, e108, go_sem], rfl⟩) ?_
    refine .cons (owes_pick (.tmp 99) (.tmp 109) (.const (.bool false)) rfl fun q u lh => ⟨wants_free rfl, true, lh.dep 6 rfl, lh.dep 16 rfl⟩) ?_
    refine .cons (owes_move (.tmp 110) (.inl rfl) fun q u lh => ⟨wants_free rfl, lh.dep 17 rfl⟩) ?_
    refine .cons (owes_value fun q u lh => ⟨lh.wants1 18 true rfl rfl rfl, .agg #[.slice (some ⟨g, 0, none⟩) 3 vc, .slice (some ⟨sB, 0, none⟩) 3 3, .slice (some ⟨sM, 0, none⟩) 3 3, .slice (some ⟨sP, 0, none⟩) 3 3], by have e3 : q.tmps.getD 3 undef = .pointer (some ⟨z, 0, none⟩) := lh.old 3 rfl; obtain ⟨q0, q1, q2, q3⟩ := X.out.below lh.below; simp [execOp, Act.eval, e3, q0, q1, q2, q3, go_sem], rfl⟩) ?_
    refine .cons (owes_move (.tmp 4) (.inl rfl) fun q u lh => ⟨lh.wants1 18 true rfl rfl rfl, lh.old 4 rfl⟩) ?_
    refine .cons (owes_value fun q u lh => ⟨lh.wants1 18 true rfl rfl rfl, .pointer (some ⟨f, 0, none⟩), by have e113 : q.tmps.getD 113 undef = .slice (some ⟨f, 0, none⟩) 4 4 := lh.dep 20 rfl; simp [execOp, Act.eval, e113, go_sem], rfl⟩) ?_
    refine .cons (owes_value fun q u lh => ⟨lh.wants1 18 true rfl rfl rfl, .agg #[.int .i64 1, .int .i64 0, .int .i64 1, .int .i64 3, .int .i64 3, .int .i64 0, .int .i64 0], by have e114 : q.tmps.getD 114 undef = .pointer (some ⟨f, 0, none⟩) := lh.dep 21 rfl; obtain ⟨y0, y1, y2, y3, y4, y5, y6⟩ := Y0.out.below lh.below; simp [execOp, Act.eval, e114, y0, y1, y2, y3, y4, y5, y6, go_sem], rfl⟩) ?_
    refine .cons (owes_move (.tmp 4) (.inl rfl) fun q u lh => ⟨lh.wants1 18 true rfl rfl rfl, lh.old 4 rfl⟩) ?_
    refine .cons (owes_value fun q u lh => ⟨lh.wants1 18 true rfl rfl rfl, .pointer (some ⟨f, 14, none⟩), by have e116 : q.tmps.getD 116 undef = .slice (some ⟨f, 0, none⟩) 4 4 := lh.dep 23 rfl; simp [execOp, Act.eval, e116, go_sem], rfl⟩) ?_
    refine .cons (owes_value fun q u lh => ⟨lh.wants1 18 true rfl rfl rfl, .agg #[.int .i64 3, .int .i64 0, .int .i64 2, .int .i64 2, .int .i64 3, .int .i64 0, .int .i64 0], by have e117 : q.tmps.getD 117 undef = .pointer (some ⟨f, 14, none⟩) := lh.dep 24 rfl; obtain ⟨y0, y1, y2, y3, y4, y5, y6⟩ := Y2.out.below lh.below; simp [execOp, Act.eval, e117, y0, y1, y2, y3, y4, y5, y6, go_sem], rfl⟩) ?_
    refine .cons (owes_move (.tmp 4) (.inl rfl) fun q u lh => ⟨lh.wants1 18 true rfl rfl rfl, lh.old 4 rfl⟩) ?_
    refine .cons (owes_value fun q u lh => ⟨lh.wants1 18 true rfl rfl rfl, .pointer (some ⟨f, 21, none⟩), by have e119 : q.tmps.getD 119 undef = .slice (some ⟨f, 0, none⟩) 4 4 := lh.dep 26 rfl; simp [execOp, Act.eval, e119, go_sem], rfl⟩) ?_
    refine .cons (owes_value fun q u lh => ⟨lh.wants1 18 true rfl rfl rfl, .agg #[.int .i64 4, .int .i64 1, .int .i64 0, .int .i64 2, .int .i64 3, .int .i64 0, .int .i64 0], by have e120 : q.tmps.getD 120 undef = .pointer (some ⟨f, 21, none⟩) := lh.dep 27 rfl; obtain ⟨y0, y1, y2, y3, y4, y5, y6⟩ := Y3.out.below lh.below; simp [execOp, Act.eval, e120, y0, y1, y2, y3, y4, y5, y6, go_sem], rfl⟩) ?_
    refine .cons (owes_make fun q u lh => ⟨lh.wants1 18 true rfl rfl rfl, .slice (some ⟨u.heap.size, 0, none⟩) 3 3, u.alloc (.cells #[.int .i64 1, .int .i64 0, .int .i64 1, .int .i64 3, .int .i64 3, .int .i64 0, .int .i64 0, .int .i64 3, .int .i64 0, .int .i64 2, .int .i64 2, .int .i64 3, .int .i64 0, .int .i64 0, .int .i64 4, .int .i64 1, .int .i64 0, .int .i64 2, .int .i64 3, .int .i64 0, .int .i64 0] 31), by have e115 : q.tmps[115]?.getD undef = .agg #[.int .i64 1, .int .i64 0, .int .i64 1, .int .i64 3, .int .i64 3, .int .i64 0, .int .i64 0] := (Array.getD_eq_getD_getElem? ..).symm.trans (lh.dep 22 rfl); have e118 : q.tmps[118]?.getD undef = .agg #[.int .i64 3, .int .i64 0, .int .i64 2, .int .i64 2, .int .i64 3, .int .i64 0, .int .i64 0] := (Array.getD_eq_getD_getElem? ..).symm.trans (lh.dep 25 rfl); have e121 : q.tmps[121]?.getD undef = .agg #[.int .i64 4, .int .i64 1, .int .i64 0, .int .i64 2, .int .i64 3, .int .i64 0, .int .i64 0] := (Array.getD_eq_getD_getElem? ..).symm.trans (lh.dep 28 rfl); simp [execOp, Act.eval, e115, e118, e121, go_sem], box_below _ _, ⟨_, _, rfl, PGood.lit3 u (1, 0, 1, 3, 3, 0, 0) (3, 0, 2, 2, 3, 0, 0) (4, 1, 0, 2, 3, 0, 0), fun x hx => Nat.zero_le _⟩⟩) ?_
    refine .cons (owes_call 12 Try.func12 (by kernel_rfl) (by kernel_rfl) [.tmp 112, .tmp 122] #[26, 27] rfl fun q u lh => ⟨lh.wants1 18 true rfl rfl rfl, by have e112 : q.tmps.getD 112 undef = .agg #[.slice (some ⟨g, 0, none⟩) 3 vc, .slice (some ⟨sB, 0, none⟩) 3 3, .slice (some ⟨sM, 0, none⟩) 3 3, .slice (some ⟨sP, 0, none⟩) 3 3] := lh.dep 19 rfl; obtain ⟨aa, cc, ea, ga, -⟩ := lh.dep 29 rfl; have ea : q.tmps.getD 122 undef = .slice aa 3 cc := ea; show Calls Try.prog 12 #[q.tmps.getD 112 undef, q.tmps.getD 122 undef] u _; rw [e112, ea, ← A2.out]; exact bool_fact (C.out aa 3 cc _ u lh.below ga)⟩) ?_
    refine .cons (owes_pick (.tmp 111) (.tmp 123) (.const (.bool false)) rfl fun q u lh => ⟨wants_free rfl, true, lh.dep 18 rfl, lh.dep 30 rfl⟩) ?_
    refine .cons (owes_move (.tmp 124) (.inl rfl) fun q u lh => ⟨wants_free rfl, lh.dep 31 rfl⟩) ?_
    refine .cons (owes_call 18 Try.func18 (by kernel_rfl) (by kernel_rfl) [] #[] rfl fun q u lh => ⟨lh.wants1 32 true rfl rfl rfl, by show Calls Try.prog 18 #[] u _; exact bool_fact (K u)⟩) ?_
    refine .cons (owes_pick (.tmp 125) (.tmp 126) (.const (.bool false)) rfl fun q u lh => ⟨wants_free rfl, true, lh.dep 32 rfl, lh.dep 33 rfl⟩) ?_
    refine .cons (owes_move (.tmp 127) (.inr rfl) fun q u lh => ⟨wants_free rfl, lh.dep 34 rfl⟩) ?_
    exact .nil _
  intro q u hb hsz hdf hold hfact
  obtain ⟨v97, e97⟩ : ∃ v, q.tmps.getD 97 undef = v := ⟨_, rfl⟩
  have f97 : (Fact.pnew 0 [(1, 0, 1, 3, 3, 0, 0)]).1 u v97 := by rw [← e97]; exact hfact 4 (by decide)
  obtain ⟨v107, e107⟩ : ∃ v, q.tmps.getD 107 undef = v := ⟨_, rfl⟩
  have f107 : (Fact.pnew 0 [(1, 0, 1, 3, 3, 0, 0), (3, 0, 2, 2, 3, 0, 0)]).1 u v107 := by rw [← e107]; exact hfact 14 (by decide)
  obtain ⟨v122, e122⟩ : ∃ v, q.tmps.getD 122 undef = v := ⟨_, rfl⟩
  have f122 : (Fact.pnew 0 [(1, 0, 1, 3, 3, 0, 0), (3, 0, 2, 2, 3, 0, 0), (4, 1, 0, 2, 3, 0, 0)]).1 u v122 := by rw [← e122]; exact hfact 29 (by decide)
  have B9 : Hid (Below w.heap.size w u) := HB.out.trans (hb.mono HB.out.size)
  obtain rfl := frame_puts hsz hdf [93, 94, 95, 96, 97, 98, 99, 100, 101, 102, 103, 104, 105, 106, 107, 108, 109, 110, 111, 112, 113, 114, 115, 116, 117, 118, 119, 120, 121, 122, 123, 124, 125, 126, 127, 2] hold [(93, Value.agg #[.slice (some ⟨g, 0, none⟩) 3 vc, .slice (some ⟨sB, 0, none⟩) 3 3, .slice (some ⟨sM, 0, none⟩) 3 3, .slice (some ⟨sP, 0, none⟩) 3 3]), (94, Value.slice (some ⟨f, 0, none⟩) 4 4), (95, Value.pointer (some ⟨f, 0, none⟩)), (96, Value.agg #[.int .i64 1, .int .i64 0, .int .i64 1, .int .i64 3, .int .i64 3, .int .i64 0, .int .i64 0]), (97, v97), (98, Value.bool true), (99, Value.bool true), (100, Value.agg #[.slice (some ⟨g, 0, none⟩) 3 vc, .slice (some ⟨sB, 0, none⟩) 3 3, .slice (some ⟨sM, 0, none⟩) 3 3, .slice (some ⟨sP, 0, none⟩) 3 3]), (101, Value.slice (some ⟨f, 0, none⟩) 4 4), (102, Value.pointer (some ⟨f, 0, none⟩)), (103, Value.agg #[.int .i64 1, .int .i64 0, .int .i64 1, .int .i64 3, .int .i64 3, .int .i64 0, .int .i64 0]), (104, Value.slice (some ⟨f, 0, none⟩) 4 4), (105, Value.pointer (some ⟨f, 14, none⟩)), (106, Value.agg #[.int .i64 3, .int .i64 0, .int .i64 2, .int .i64 2, .int .i64 3, .int .i64 0, .int .i64 0]), (107, v107), (108, Value.bool false), (109, Value.bool true), (110, Value.bool true), (111, Value.bool true), (112, Value.agg #[.slice (some ⟨g, 0, none⟩) 3 vc, .slice (some ⟨sB, 0, none⟩) 3 3, .slice (some ⟨sM, 0, none⟩) 3 3, .slice (some ⟨sP, 0, none⟩) 3 3]), (113, Value.slice (some ⟨f, 0, none⟩) 4 4), (114, Value.pointer (some ⟨f, 0, none⟩)), (115, Value.agg #[.int .i64 1, .int .i64 0, .int .i64 1, .int .i64 3, .int .i64 3, .int .i64 0, .int .i64 0]), (116, Value.slice (some ⟨f, 0, none⟩) 4 4), (117, Value.pointer (some ⟨f, 14, none⟩)), (118, Value.agg #[.int .i64 3, .int .i64 0, .int .i64 2, .int .i64 2, .int .i64 3, .int .i64 0, .int .i64 0]), (119, Value.slice (some ⟨f, 0, none⟩) 4 4), (120, Value.pointer (some ⟨f, 21, none⟩)), (121, Value.agg #[.int .i64 4, .int .i64 1, .int .i64 0, .int .i64 2, .int .i64 3, .int .i64 0, .int .i64 0]), (122, v122), (123, Value.bool true), (124, Value.bool true), (125, Value.bool true), (126, Value.bool true), (127, Value.bool true), (2, Value.bool true)] ⟨hfact 0 (by decide), hfact 1 (by decide), hfact 2 (by decide), hfact 3 (by decide), e97, hfact 5 (by decide), hfact 6 (by decide), hfact 7 (by decide), hfact 8 (by decide), hfact 9 (by decide), hfact 10 (by decide), hfact 11 (by decide), hfact 12 (by decide), hfact 13 (by decide), e107, hfact 15 (by decide), hfact 16 (by decide), hfact 17 (by decide), hfact 18 (by decide), hfact 19 (by decide), hfact 20 (by decide), hfact 21 (by decide), hfact 22 (by decide), hfact 23 (by decide), hfact 24 (by decide), hfact 25 (by decide), hfact 26 (by decide), hfact 27 (by decide), hfact 28 (by decide), e122, hfact 30 (by decide), hfact 31 (by decide), hfact 32 (by decide), hfact 33 (by decide), hfact 34 (by decide), hfact 35 (by decide), trivial⟩ rfl
  clear hsz hdf hold hfact
  clear hb
  simp only [puts, Act.put, List.setIfInBounds_toArray, List.set_cons_zero, List.set_cons_succ]
  go_wp2
  go_ret
  exact ⟨rfl, B9.out⟩

end Walk
end Go.Proofs.Ytdikimddkhahdaa
