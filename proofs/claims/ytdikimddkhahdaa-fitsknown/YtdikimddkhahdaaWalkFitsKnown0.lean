/-
  FitsKnown, way 0.
-/
import Derived.Test.YtdikimddkhahdaaFitsLits
import Derived.Test.YtdikimddkhahdaaRowRefs
import Derived.Test.YtdikimddkhahdaaRowBase
namespace Go.Proofs.Ytdikimddkhahdaa
open Go.RowKit
set_option linter.unusedVariables false
set_option linter.unusedSimpArgs false

namespace Walk

set_option maxHeartbeats 8000000 in
set_option maxRecDepth 100000 in
theorem fitsKnown0 (w : World) : Calls Try.prog 8 #[.int .i64 0] w fun e w' => e = .returned (.bool true) ∧ Below w.heap.size w w' := by
  have S := some_zero [10, 10, 0] 0 (some ⟨w.heap.size, 0, none⟩) 3 3 (w.alloc (.cells #[.int .i64 10, .int .i64 10, .int .i64 0] 2)) (Sl.new .i64 w 2 (0, 0) [10, 10, 0] (by decide)) (by omega) (by decide) (by decide) (by decide)
  obtain ⟨H, hH⟩ : ∃ H, (w.alloc (.cells #[.int .i64 10, .int .i64 10, .int .i64 0] 2)).heap.size = H := ⟨_, rfl⟩
  have HH : Hid (H = w.heap.size + 1) := by show _ = _; rw [← hH, size_alloc]
  unfold SomeEnd3 at S
  rw [hH] at S
  clear hH
  obtain ⟨b0, hb0⟩ : ∃ x, H + 1 = x := ⟨_, rfl⟩
  obtain ⟨sB, hsB⟩ : ∃ x, H + 4 = x := ⟨_, rfl⟩
  obtain ⟨sM, hsM⟩ : ∃ x, H + 5 = x := ⟨_, rfl⟩
  obtain ⟨p0, hp0⟩ : ∃ x, H + 6 = x := ⟨_, rfl⟩
  obtain ⟨p1, hp1⟩ : ∃ x, H + 7 = x := ⟨_, rfl⟩
  obtain ⟨sP, hsP⟩ : ∃ x, H + 9 = x := ⟨_, rfl⟩
  have HLIES : Hid (b0 = H + 1 ∧ sB = H + 4 ∧ sM = H + 5 ∧ p0 = H + 6 ∧ p1 = H + 7 ∧ sP = H + 9) := ⟨hb0.symm, hsB.symm, hsM.symm, hp0.symm, hp1.symm, hsP.symm⟩
  have K := known15
  clear hb0 hsB hsM hp0 hp1 hsP
  go_enter Try.func8, Try.ntmps8
  go_wp2_with fail
  go_at_call 19
  refine S.mono ?_
  rintro e w1 ⟨g, vc, he, lay, bel⟩
  have he : e = .returned (.agg #[.slice (some ⟨g, 0, none⟩) 3 vc, .slice (some ⟨sB, 0, none⟩) 3 3, .slice (some ⟨sM, 0, none⟩) 3 3, .slice (some ⟨sP, 0, none⟩) 3 3]) := by rw [he, HLIES.out.2.1, HLIES.out.2.2.1, HLIES.out.2.2.2.2.2]; rfl
  subst he
  have B1 : Hid (Below w.heap.size w w1) := (box_below _ _).trans (bel.mono (by rw [HH.out]; omega))
  obtain ⟨w2, hw2⟩ : ∃ w2, w2 = w1.alloc (.cells #[.slice (some ⟨g, 0, none⟩) 3 vc, .slice (some ⟨sB, 0, none⟩) 3 3, .slice (some ⟨sM, 0, none⟩) 3 3, .slice (some ⟨sP, 0, none⟩) 3 3] 26) := ⟨_, rfl⟩
  obtain ⟨z, hz⟩ : ∃ z, w1.heap.size = z := ⟨_, rfl⟩
  have HGT : Hid (H + 10 < g ∧ g < z) := ⟨lay.gt, by rw [← hz]; exact lay.lt⟩
  have L2 : Hid (Lay4 w2 H z g vc [(10, 0, 0), (10, 0, 0), (0, 0, 0)] [-1, -1, -1] [-1, -1, -1] [-1, -1, -1] [-1, -1, -1] [0, 0, 0] [0, 0, 0] [0, 0, 0]) := by
    refine ⟨by rw [hw2]; exact lay.below (box_below _ _), HGT.out.2, ?_⟩
    rw [hw2, ← hz, HLIES.out.2.1, HLIES.out.2.2.1, HLIES.out.2.2.2.2.2]
    exact heap_alloc_new w1 _
  have B2 : Hid (Below w.heap.size w w2) := by rw [hw2]; exact B1.out.alloc B1.out.size _
  clear S lay bel B1
  go_upto_region 2 with fail
  rw [← hw2]
  have HZ2 : Hid (z < w2.heap.size) := by show _ < _; rw [hw2, size_alloc, hz]; omega
  clear hw2 hz
  go_wp2_with fail
  go_at_call 23
  refine (func3_any _).mono ?_
  rintro e w3 ⟨f, rfl, hf, hp, hb⟩
  have HZF : Hid (z < f) := by have := HZ2.out; show z < f; omega
  have HL : Hid (Lay4 w3 H z g vc [(10, 0, 0), (10, 0, 0), (0, 0, 0)] [-1, -1, -1] [-1, -1, -1] [-1, -1, -1] [-1, -1, -1] [0, 0, 0] [0, 0, 0] [0, 0, 0]) := L2.out.below hb
  have HP : Hid (PBlk w3 f four) := hp
  have HB : Hid (Below w.heap.size w w3) := B2.out.trans (hb.mono B2.out.size)
  have HALL : Hid (b0 = H + 1 ∧ sB = H + 4 ∧ sM = H + 5 ∧ p0 = H + 6 ∧ p1 = H + 7 ∧ sP = H + 9 ∧ H + 10 < g ∧ g < z ∧ z < f ∧ H = w.heap.size + 1) := by
    have h1 := HLIES.out
    have h2 := HGT.out
    have h3 := HZF.out
    have h4 := HH.out
    show _ ∧ _
    omega
  clear hf hp hb L2 B2 HZ2 HGT HH
  go_upto_region 5 with fail
  obtain ⟨w4, hw4⟩ : ∃ x, x = (w3.setCell ⟨g, 2, none⟩ (.int .i64 5)) := ⟨_, rfl⟩
  have L4 : Hid (Lay4 w4 H z g vc [(10, 0, 5), (10, 0, 0), (0, 0, 0)] [-1, -1, -1] [-1, -1, -1] [-1, -1, -1] [-1, -1, -1] [0, 0, 0] [0, 0, 0] [0, 0, 0]) := by rw [hw4]; exact (HL.out.setA 2 (.int .i64 5) [(10, 0, 5), (10, 0, 0), (0, 0, 0)] rfl rfl (by omega))
  have P4 : Hid (PBlk w4 f [(1, 0, 1, 1, 3, 0, 0), (2, 0, 1, 1, 3, 0, 0), (3, 0, 2, 3, 3, 0, 0), (4, 1, 0, 2, 3, 0, 0)]) := by rw [hw4]; exact (HP.out.far (by have := HALL.out; omega) 2 (.int .i64 5))
  have B4 : Hid (Below w.heap.size w w4) := by rw [hw4]; exact (HB.out.setCell (p := ⟨g, 2, none⟩) (by have := HALL.out; show w.heap.size ≤ g; omega) (.int .i64 5))
  have x0 : w3.cell? ⟨z, 0, none⟩ = some (.slice (some ⟨g, 0, none⟩) 3 vc) := HL.out.cell rfl
  have c0 : w3.cell? ⟨g, 2, none⟩ = some (.int .i64 0) := HL.out.acct (by omega) rfl
  have f0 := HL.out.free 2
  go_upto_region 6 with fail
  rw [← hw4]
  clear hw4 x0 c0 f0 HL HP HB
  have HL := L4
  have HP := P4
  have HB := B4
  clear L4 P4 B4
  go_upto_region 6 with fail
  obtain ⟨w5, hw5⟩ : ∃ x, x = ((w4.setCell ⟨f, 4, none⟩ (.int .i64 2)).setCell ⟨f, 11, none⟩ (.int .i64 3)) := ⟨_, rfl⟩
  have L5 : Hid (Lay4 w5 H z g vc [(10, 0, 5), (10, 0, 0), (0, 0, 0)] [-1, -1, -1] [-1, -1, -1] [-1, -1, -1] [-1, -1, -1] [0, 0, 0] [0, 0, 0] [0, 0, 0]) := by rw [hw5]; exact ((HL.out.far HZF.out 4 (.int .i64 2)).far HZF.out 11 (.int .i64 3))
  have P5 : Hid (PBlk w5 f [(1, 0, 1, 1, 2, 0, 0), (2, 0, 1, 1, 3, 0, 0), (3, 0, 2, 3, 3, 0, 0), (4, 1, 0, 2, 3, 0, 0)]) := by rw [hw5]; exact ((HP.out.set 4 (.int .i64 2) [(1, 0, 1, 1, 2, 0, 0), (2, 0, 1, 1, 3, 0, 0), (3, 0, 2, 3, 3, 0, 0), (4, 1, 0, 2, 3, 0, 0)] rfl).set 11 (.int .i64 3) [(1, 0, 1, 1, 2, 0, 0), (2, 0, 1, 1, 3, 0, 0), (3, 0, 2, 3, 3, 0, 0), (4, 1, 0, 2, 3, 0, 0)] rfl)
  have B5 : Hid (Below w.heap.size w w5) := by rw [hw5]; exact ((HB.out.setCell (p := ⟨f, 4, none⟩) (by have := HALL.out; show w.heap.size ≤ f; omega) (.int .i64 2)).setCell (p := ⟨f, 11, none⟩) (by have := HALL.out; show w.heap.size ≤ f; omega) (.int .i64 3))
  have c0 : w4.cell? ⟨f, 4, none⟩ = some (.int .i64 3) := HP.out.cell rfl
  have f0 := HP.out.free 4
  have c1 : w4.cell? ⟨f, 11, none⟩ = some (.int .i64 3) := HP.out.cell rfl
  have f1 := HP.out.free 11
  go_upto_region 7 with fail
  rw [← hw5]
  clear hw5 c0 f0 c1 f1 HL HP HB
  have HL := L5
  have HP := P5
  have HB := B5
  clear L5 P5 B5
  go_upto_region 7 with fail
  obtain ⟨w6, hw6⟩ : ∃ x, x = ((w5.setCell ⟨f, 3, none⟩ (.int .i64 3)).setCell ⟨f, 10, none⟩ (.int .i64 5)) := ⟨_, rfl⟩
  have L6 : Hid (Lay4 w6 H z g vc [(10, 0, 5), (10, 0, 0), (0, 0, 0)] [-1, -1, -1] [-1, -1, -1] [-1, -1, -1] [-1, -1, -1] [0, 0, 0] [0, 0, 0] [0, 0, 0]) := by rw [hw6]; exact ((HL.out.far HZF.out 3 (.int .i64 3)).far HZF.out 10 (.int .i64 5))
  have P6 : Hid (PBlk w6 f [(1, 0, 1, 3, 2, 0, 0), (2, 0, 1, 5, 3, 0, 0), (3, 0, 2, 3, 3, 0, 0), (4, 1, 0, 2, 3, 0, 0)]) := by rw [hw6]; exact ((HP.out.set 3 (.int .i64 3) [(1, 0, 1, 3, 2, 0, 0), (2, 0, 1, 1, 3, 0, 0), (3, 0, 2, 3, 3, 0, 0), (4, 1, 0, 2, 3, 0, 0)] rfl).set 10 (.int .i64 5) [(1, 0, 1, 3, 2, 0, 0), (2, 0, 1, 5, 3, 0, 0), (3, 0, 2, 3, 3, 0, 0), (4, 1, 0, 2, 3, 0, 0)] rfl)
  have B6 : Hid (Below w.heap.size w w6) := by rw [hw6]; exact ((HB.out.setCell (p := ⟨f, 3, none⟩) (by have := HALL.out; show w.heap.size ≤ f; omega) (.int .i64 3)).setCell (p := ⟨f, 10, none⟩) (by have := HALL.out; show w.heap.size ≤ f; omega) (.int .i64 5))
  have c0 : w5.cell? ⟨f, 3, none⟩ = some (.int .i64 1) := HP.out.cell rfl
  have f0 := HP.out.free 3
  have c1 : w5.cell? ⟨f, 10, none⟩ = some (.int .i64 1) := HP.out.cell rfl
  have f1 := HP.out.free 10
  go_upto_region 8 with fail
  rw [← hw6]
  clear hw6 c0 f0 c1 f1 HL HP HB
  have HL := L6
  have HP := P6
  have HB := B6
  clear L6 P6 B6
  obtain ⟨bk, hbk⟩ : ∃ bk : Bks, bk = ⟨[(10, 0, 5), (10, 0, 0), (0, 0, 0)], [[-1, -1, -1], [-1, -1, -1], [-1, -1, -1]], [-1, -1, -1], [[0, 0, 0], [0, 0, 0], [0, 0, 0]]⟩ := ⟨_, rfl⟩
  have GB : Hid (Good bk) := by rw [hbk]; exact booksB_yes.1 (by decide +kernel)
  have NB : Hid (Bk w6 ⟨some ⟨g, 0, none⟩, 3, vc, some ⟨sB, 0, none⟩, 3, 3, some ⟨sM, 0, none⟩, 3, 3, some ⟨sP, 0, none⟩, 3, 3⟩ bk) := by
    have := HL.out.bk ⟨rfl, rfl, rfl, rfl, rfl, rfl, rfl⟩ (by show ∀ z ∈ _, ∀ n ∈ z, IntKind.i64.wrap n = n; decide) (by show ∀ n ∈ _, IntKind.i64.wrap n = n; decide) (by show ∀ z ∈ _, ∀ n ∈ z, IntKind.i64.wrap n = n; decide)
    rw [hbk, HLIES.out.2.1, HLIES.out.2.2.1, HLIES.out.2.2.2.2.2]
    exact this
  have A0 : Hid (fitsB bk [(1, 0, 1, 3, 2, 0, 0), (2, 0, 1, 5, 3, 0, 0)] = true) := by rw [hbk]; show _ = _; decide +kernel
  have A1 : Hid (fitsB bk [(2, 0, 1, 5, 3, 0, 0), (3, 0, 2, 3, 3, 0, 0)] = false) := by rw [hbk]; show _ = _; decide +kernel
  have C : Hid (∀ (a : Option Addr) (n c : Nat) (L : List P7) (u : World), Below w6.heap.size w6 u → PGood u a n c L → Calls Try.prog 12 #[.agg #[.slice (some ⟨g, 0, none⟩) 3 vc, .slice (some ⟨sB, 0, none⟩) 3 3, .slice (some ⟨sM, 0, none⟩) 3 3, .slice (some ⟨sP, 0, none⟩) 3 3], .slice a n c] u fun e w' => e = .returned (.bool (fitsB bk L)) ∧ Below u.heap.size u w') := fun a n c L u hu hg => fitsFits_any ⟨some ⟨g, 0, none⟩, 3, vc, some ⟨sB, 0, none⟩, 3, 3, some ⟨sM, 0, none⟩, 3, 3, some ⟨sP, 0, none⟩, 3, 3⟩ bk a n c L u (NB.out.below hu) GB.out hg
  clear hbk NB GB
  have Y0 : Hid (At7 w6 f 0 (1, 0, 1, 3, 2, 0, 0)) := ⟨HP.out.cell rfl, HP.out.cell rfl, HP.out.cell rfl, HP.out.cell rfl, HP.out.cell rfl, HP.out.cell rfl, HP.out.cell rfl⟩
  have Y1 : Hid (At7 w6 f 7 (2, 0, 1, 5, 3, 0, 0)) := ⟨HP.out.cell rfl, HP.out.cell rfl, HP.out.cell rfl, HP.out.cell rfl, HP.out.cell rfl, HP.out.cell rfl, HP.out.cell rfl⟩
  have Y2 : Hid (At7 w6 f 14 (3, 0, 2, 3, 3, 0, 0)) := ⟨HP.out.cell rfl, HP.out.cell rfl, HP.out.cell rfl, HP.out.cell rfl, HP.out.cell rfl, HP.out.cell rfl, HP.out.cell rfl⟩
  have X : Hid (Box4 w6 z ⟨some ⟨g, 0, none⟩, 3, vc, some ⟨sB, 0, none⟩, 3, 3, some ⟨sM, 0, none⟩, 3, 3, some ⟨sP, 0, none⟩, 3, 3⟩) := by
    refine ⟨HL.out.cell rfl, ?_, ?_, ?_⟩
    · show _ = some (Value.slice (some ⟨sB, 0, none⟩) 3 3)
      rw [HLIES.out.2.1]; exact HL.out.cell rfl
    · show _ = some (Value.slice (some ⟨sM, 0, none⟩) 3 3)
      rw [HLIES.out.2.2.1]; exact HL.out.cell rfl
    · show _ = some (Value.slice (some ⟨sP, 0, none⟩) 3 3)
      rw [HLIES.out.2.2.2.2.2]; exact HL.out.cell rfl
  clear HL HP HALL HLIES HZF
  refine region_owes (L := [Fact.is (.agg #[.slice (some ⟨g, 0, none⟩) 3 vc, .slice (some ⟨sB, 0, none⟩) 3 3, .slice (some ⟨sM, 0, none⟩) 3 3, .slice (some ⟨sP, 0, none⟩) 3 3]),
    Fact.is (.slice (some ⟨f, 0, none⟩) 4 4),
    Fact.is (.pointer (some ⟨f, 0, none⟩)),
    Fact.is (.agg #[.int .i64 1, .int .i64 0, .int .i64 1, .int .i64 3, .int .i64 2, .int .i64 0, .int .i64 0]),
    Fact.is (.slice (some ⟨f, 0, none⟩) 4 4),
    Fact.is (.pointer (some ⟨f, 7, none⟩)),
    Fact.is (.agg #[.int .i64 2, .int .i64 0, .int .i64 1, .int .i64 5, .int .i64 3, .int .i64 0, .int .i64 0]),
    Fact.pnew 0 [(1, 0, 1, 3, 2, 0, 0), (2, 0, 1, 5, 3, 0, 0)],
    Fact.is (.bool true),
    Fact.is (.bool true),
    Fact.is (.agg #[.slice (some ⟨g, 0, none⟩) 3 vc, .slice (some ⟨sB, 0, none⟩) 3 3, .slice (some ⟨sM, 0, none⟩) 3 3, .slice (some ⟨sP, 0, none⟩) 3 3]),
    Fact.is (.slice (some ⟨f, 0, none⟩) 4 4),
    Fact.is (.pointer (some ⟨f, 7, none⟩)),
    Fact.is (.agg #[.int .i64 2, .int .i64 0, .int .i64 1, .int .i64 5, .int .i64 3, .int .i64 0, .int .i64 0]),
    Fact.is (.slice (some ⟨f, 0, none⟩) 4 4),
    Fact.is (.pointer (some ⟨f, 14, none⟩)),
    Fact.is (.agg #[.int .i64 3, .int .i64 0, .int .i64 2, .int .i64 3, .int .i64 3, .int .i64 0, .int .i64 0]),
    Fact.pnew 0 [(2, 0, 1, 5, 3, 0, 0), (3, 0, 2, 3, 3, 0, 0)],
    Fact.is (.bool false),
    Fact.is (.bool true),
    Fact.is (.bool true),
    Fact.is (.bool true),
    Fact.is (.bool true),
    Fact.is (.bool true),
    Fact.is (.bool true)])
    (T := [27, 28, 29, 30, 31, 32, 33, 34, 35, 36, 37, 38, 39, 40, 41, 42, 43, 44, 45, 46, 47, 48, 49, 50, 2]) (by kernel_rfl) (by kernel_rfl) rfl ?owes ?_
  case owes =>
    refine .cons (owes_value fun q u lh => ⟨wants_free rfl, .agg #[.slice (some ⟨g, 0, none⟩) 3 vc, .slice (some ⟨sB, 0, none⟩) 3 3, .slice (some ⟨sM, 0, none⟩) 3 3, .slice (some ⟨sP, 0, none⟩) 3 3], by have e3 : q.tmps.getD 3 undef = .pointer (some ⟨z, 0, none⟩) := lh.old 3 rfl; obtain ⟨q0, q1, q2, q3⟩ := X.out.below lh.below; simp [execOp, Act.eval, e3, q0, q1, q2, q3, go_sem], rfl⟩) ?_
    refine .cons (owes_move (.tmp 4) (.inl rfl) fun q u lh => ⟨wants_free rfl, lh.old 4 rfl⟩) ?_
    refine .cons (owes_value fun q u lh => ⟨wants_free rfl, .pointer (some ⟨f, 0, none⟩), by have e28 : q.tmps.getD 28 undef = .slice (some ⟨f, 0, none⟩) 4 4 := lh.dep 1 rfl; simp [execOp, Act.eval, e28, go_sem], rfl⟩) ?_
    refine .cons (owes_value fun q u lh => ⟨wants_free rfl, .agg #[.int .i64 1, .int .i64 0, .int .i64 1, .int .i64 3, .int .i64 2, .int .i64 0, .int .i64 0], by have e29 : q.tmps.getD 29 undef = .pointer (some ⟨f, 0, none⟩) := lh.dep 2 rfl; obtain ⟨y0, y1, y2, y3, y4, y5, y6⟩ := Y0.out.below lh.below; simp [execOp, Act.eval, e29, y0, y1, y2, y3, y4, y5, y6, go_sem], rfl⟩) ?_
    refine .cons (owes_move (.tmp 4) (.inl rfl) fun q u lh => ⟨wants_free rfl, lh.old 4 rfl⟩) ?_
    refine .cons (owes_value fun q u lh => ⟨wants_free rfl, .pointer (some ⟨f, 7, none⟩), by have e31 : q.tmps.getD 31 undef = .slice (some ⟨f, 0, none⟩) 4 4 := lh.dep 4 rfl; simp [execOp, Act.eval, e31, go_sem], rfl⟩) ?_
    refine .cons (owes_value fun q u lh => ⟨wants_free rfl, .agg #[.int .i64 2, .int .i64 0, .int .i64 1, .int .i64 5, .int .i64 3, .int .i64 0, .int .i64 0], by have e32 : q.tmps.getD 32 undef = .pointer (some ⟨f, 7, none⟩) := lh.dep 5 rfl; obtain ⟨y0, y1, y2, y3, y4, y5, y6⟩ := Y1.out.below lh.below; simp [execOp, Act.eval, e32, y0, y1, y2, y3, y4, y5, y6, go_sem], rfl⟩) ?_
    refine .cons (owes_make fun q u lh => ⟨wants_free rfl, .slice (some ⟨u.heap.size, 0, none⟩) 2 2, u.alloc (.cells #[.int .i64 1, .int .i64 0, .int .i64 1, .int .i64 3, .int .i64 2, .int .i64 0, .int .i64 0, .int .i64 2, .int .i64 0, .int .i64 1, .int .i64 5, .int .i64 3, .int .i64 0, .int .i64 0] 31), by have e30 : q.tmps[30]?.getD undef = .agg #[.int .i64 1, .int .i64 0, .int .i64 1, .int .i64 3, .int .i64 2, .int .i64 0, .int .i64 0] := (Array.getD_eq_getD_getElem? ..).symm.trans (lh.dep 3 rfl); have e33 : q.tmps[33]?.getD undef = .agg #[.int .i64 2, .int .i64 0, .int .i64 1, .int .i64 5, .int .i64 3, .int .i64 0, .int .i64 0] := (Array.getD_eq_getD_getElem? ..).symm.trans (lh.dep 6 rfl); simp [execOp, Act.eval, e30, e33, go_sem], box_below _ _, ⟨_, _, rfl, PGood.lit2 u (1, 0, 1, 3, 2, 0, 0) (2, 0, 1, 5, 3, 0, 0), fun x hx => Nat.zero_le _⟩⟩) ?_
    refine .cons (owes_call 12 Try.func12 (by kernel_rfl) (by kernel_rfl) [.tmp 27, .tmp 34] #[26, 27] rfl fun q u lh => ⟨wants_free rfl, by have e27 : q.tmps.getD 27 undef = .agg #[.slice (some ⟨g, 0, none⟩) 3 vc, .slice (some ⟨sB, 0, none⟩) 3 3, .slice (some ⟨sM, 0, none⟩) 3 3, .slice (some ⟨sP, 0, none⟩) 3 3] := lh.dep 0 rfl; obtain ⟨aa, cc, ea, ga, -⟩ := lh.dep 7 rfl; have ea : q.tmps.getD 34 undef = .slice aa 2 cc := ea; show Calls Try.prog 12 #[q.tmps.getD 27 undef, q.tmps.getD 34 undef] u _; rw [e27, ea, ← A0.out]; exact bool_fact (C.out aa 2 cc _ u lh.below ga)⟩) ?_
    refine .cons (owes_move (.tmp 35) (.inl rfl) fun q u lh => ⟨wants_free rfl, lh.dep 8 rfl⟩) ?_
    refine .cons (owes_value fun q u lh => ⟨lh.wants1 9 true rfl rfl rfl, .agg #[.slice (some ⟨g, 0, none⟩) 3 vc, .slice (some ⟨sB, 0, none⟩) 3 3, .slice (some ⟨sM, 0, none⟩) 3 3, .slice (some ⟨sP, 0, none⟩) 3 3], by have e3 : q.tmps.getD 3 undef = .pointer (some ⟨z, 0, none⟩) := lh.old 3 rfl; obtain ⟨q0, q1, q2, q3⟩ := X.out.below lh.below; simp [execOp, Act.eval, e3, q0, q1, q2, q3, go_sem], rfl⟩) ?_
    refine .cons (owes_move (.tmp 4) (.inl rfl) fun q u lh => ⟨lh.wants1 9 true rfl rfl rfl, lh.old 4 rfl⟩) ?_
    refine .cons (owes_value fun q u lh => ⟨lh.wants1 9 true rfl rfl rfl, .pointer (some ⟨f, 7, none⟩), by have e38 : q.tmps.getD 38 undef = .slice (some ⟨f, 0, none⟩) 4 4 := lh.dep 11 rfl; simp [execOp, Act.eval, e38, go_sem], rfl⟩) ?_
    refine .cons (owes_value fun q u lh => ⟨lh.wants1 9 true rfl rfl rfl, .agg #[.int .i64 2, .int .i64 0, .int .i64 1, .int .i64 5, .int .i64 3, .int .i64 0, .int .i64 0], by have e39 : q.tmps.getD 39 undef = .pointer (some ⟨f, 7, none⟩) := lh.dep 12 rfl; obtain ⟨y0, y1, y2, y3, y4, y5, y6⟩ := Y1.out.below lh.below; simp [execOp, Act.eval, e39, y0, y1, y2, y3, y4, y5, y6, go_sem], rfl⟩) ?_
    refine .cons (owes_move (.tmp 4) (.inl rfl) fun q u lh => ⟨lh.wants1 9 true rfl rfl rfl, lh.old 4 rfl⟩) ?_
    refine .cons (owes_value fun q u lh => ⟨lh.wants1 9 true rfl rfl rfl, .pointer (some ⟨f, 14, none⟩), by have e41 : q.tmps.getD 41 undef = .slice (some ⟨f, 0, none⟩) 4 4 := lh.dep 14 rfl; simp [execOp, Act.eval, e41, go_sem], rfl⟩) ?_
    refine .cons (owes_value fun q u lh => ⟨lh.wants1 9 true rfl rfl rfl, .agg #[.int .i64 3, .int .i64 0, .int .i64 2, .int .i64 3, .int .i64 3, .int .i64 0, .int .i64 0], by have e42 : q.tmps.getD 42 undef = .pointer (some ⟨f, 14, none⟩) := lh.dep 15 rfl; obtain ⟨y0, y1, y2, y3, y4, y5, y6⟩ := Y2.out.below lh.below; simp [execOp, Act.eval, e42, y0, y1, y2, y3, y4, y5, y6, go_sem], rfl⟩) ?_
    refine .cons (owes_make fun q u lh => ⟨lh.wants1 9 true rfl rfl rfl, .slice (some ⟨u.heap.size, 0, none⟩) 2 2, u.alloc (.cells #[.int .i64 2, .int .i64 0, .int .i64 1, .int .i64 5, .int .i64 3, .int .i64 0, .int .i64 0, .int .i64 3, .int .i64 0, .int .i64 2, .int .i64 3, .int .i64 3, .int .i64 0, .int .i64 0] 31), by have e40 : q.tmps[40]?.getD undef = .agg #[.int .i64 2, .int .i64 0, .int .i64 1, .int .i64 5, .int .i64 3, .int .i64 0, .int .i64 0] := (Array.getD_eq_getD_getElem? ..).symm.trans (lh.dep 13 rfl); have e43 : q.tmps[43]?.getD undef = .agg #[.int .i64 3, .int .i64 0, .int .i64 2, .int .i64 3, .int .i64 3, .int .i64 0, .int .i64 0] := (Array.getD_eq_getD_getElem? ..).symm.trans (lh.dep 16 rfl); simp [execOp, Act.eval, e40, e43, go_sem], box_below _ _, ⟨_, _, rfl, PGood.lit2 u (2, 0, 1, 5, 3, 0, 0) (3, 0, 2, 3, 3, 0, 0), fun x hx => Nat.zero_le _⟩⟩) ?_
    refine .cons (owes_call 12 Try.func12 (by kernel_rfl) (by kernel_rfl) [.tmp 37, .tmp 44] #[26, 27] rfl fun q u lh => ⟨lh.wants1 9 true rfl rfl rfl, by have e37 : q.tmps.getD 37 undef = .agg #[.slice (some ⟨g, 0, none⟩) 3 vc, .slice (some ⟨sB, 0, none⟩) 3 3, .slice (some ⟨sM, 0, none⟩) 3 3, .slice (some ⟨sP, 0, none⟩) 3 3] := lh.dep 10 rfl; obtain ⟨aa, cc, ea, ga, -⟩ := lh.dep 17 rfl; have ea : q.tmps.getD 44 undef = .slice aa 2 cc := ea; show Calls Try.prog 12 #[q.tmps.getD 37 undef, q.tmps.getD 44 undef] u _; rw [e37, ea, ← A1.out]; exact bool_fact (C.out aa 2 cc _ u lh.below ga)⟩) ?_
    refine .cons (owes_value fun q u lh => ⟨lh.wants1 9 true rfl rfl rfl, .bool true, by have e45 : q.tmps.getD 45 undef = .bool false := lh.dep 18 rfl; simp [execOp, Act.eval, e45, go_sem], rfl⟩) ?_
    refine .cons (owes_pick (.tmp 36) (.tmp 46) (.const (.bool false)) rfl fun q u lh => ⟨wants_free rfl, true, lh.dep 9 rfl, lh.dep 19 rfl⟩) ?_
    refine .cons (owes_move (.tmp 47) (.inl rfl) fun q u lh => ⟨wants_free rfl, lh.dep 20 rfl⟩) ?_
    refine .cons (owes_call 18 Try.func18 (by kernel_rfl) (by kernel_rfl) [] #[] rfl fun q u lh => ⟨lh.wants1 21 true rfl rfl rfl, by show Calls Try.prog 18 #[] u _; exact bool_fact (K u)⟩) ?_
    refine .cons (owes_pick (.tmp 48) (.tmp 49) (.const (.bool false)) rfl fun q u lh => ⟨wants_free rfl, true, lh.dep 21 rfl, lh.dep 22 rfl⟩) ?_
    refine .cons (owes_move (.tmp 50) (.inr rfl) fun q u lh => ⟨wants_free rfl, lh.dep 23 rfl⟩) ?_
    exact .nil _
  intro q u hb hsz hdf hold hfact
  obtain ⟨v34, e34⟩ : ∃ v, q.tmps.getD 34 undef = v := ⟨_, rfl⟩
  have f34 : (Fact.pnew 0 [(1, 0, 1, 3, 2, 0, 0), (2, 0, 1, 5, 3, 0, 0)]).1 u v34 := by rw [← e34]; exact hfact 7 (by decide)
  obtain ⟨v44, e44⟩ : ∃ v, q.tmps.getD 44 undef = v := ⟨_, rfl⟩
  have f44 : (Fact.pnew 0 [(2, 0, 1, 5, 3, 0, 0), (3, 0, 2, 3, 3, 0, 0)]).1 u v44 := by rw [← e44]; exact hfact 17 (by decide)
  have B9 : Hid (Below w.heap.size w u) := HB.out.trans (hb.mono HB.out.size)
  obtain rfl := frame_puts hsz hdf [27, 28, 29, 30, 31, 32, 33, 34, 35, 36, 37, 38, 39, 40, 41, 42, 43, 44, 45, 46, 47, 48, 49, 50, 2] hold [(27, Value.agg #[.slice (some ⟨g, 0, none⟩) 3 vc, .slice (some ⟨sB, 0, none⟩) 3 3, .slice (some ⟨sM, 0, none⟩) 3 3, .slice (some ⟨sP, 0, none⟩) 3 3]), (28, Value.slice (some ⟨f, 0, none⟩) 4 4), (29, Value.pointer (some ⟨f, 0, none⟩)), (30, Value.agg #[.int .i64 1, .int .i64 0, .int .i64 1, .int .i64 3, .int .i64 2, .int .i64 0, .int .i64 0]), (31, Value.slice (some ⟨f, 0, none⟩) 4 4), (32, Value.pointer (some ⟨f, 7, none⟩)), (33, Value.agg #[.int .i64 2, .int .i64 0, .int .i64 1, .int .i64 5, .int .i64 3, .int .i64 0, .int .i64 0]), (34, v34), (35, Value.bool true), (36, Value.bool true), (37, Value.agg #[.slice (some ⟨g, 0, none⟩) 3 vc, .slice (some ⟨sB, 0, none⟩) 3 3, .slice (some ⟨sM, 0, none⟩) 3 3, .slice (some ⟨sP, 0, none⟩) 3 3]), (38, Value.slice (some ⟨f, 0, none⟩) 4 4), (39, Value.pointer (some ⟨f, 7, none⟩)), (40, Value.agg #[.int .i64 2, .int .i64 0, .int .i64 1, .int .i64 5, .int .i64 3, .int .i64 0, .int .i64 0]), (41, Value.slice (some ⟨f, 0, none⟩) 4 4), (42, Value.pointer (some ⟨f, 14, none⟩)), (43, Value.agg #[.int .i64 3, .int .i64 0, .int .i64 2, .int .i64 3, .int .i64 3, .int .i64 0, .int .i64 0]), (44, v44), (45, Value.bool false), (46, Value.bool true), (47, Value.bool true), (48, Value.bool true), (49, Value.bool true), (50, Value.bool true), (2, Value.bool true)] ⟨hfact 0 (by decide), hfact 1 (by decide), hfact 2 (by decide), hfact 3 (by decide), hfact 4 (by decide), hfact 5 (by decide), hfact 6 (by decide), e34, hfact 8 (by decide), hfact 9 (by decide), hfact 10 (by decide), hfact 11 (by decide), hfact 12 (by decide), hfact 13 (by decide), hfact 14 (by decide), hfact 15 (by decide), hfact 16 (by decide), e44, hfact 18 (by decide), hfact 19 (by decide), hfact 20 (by decide), hfact 21 (by decide), hfact 22 (by decide), hfact 23 (by decide), hfact 24 (by decide), trivial⟩ rfl
  clear hsz hdf hold hfact
  clear hb
  simp only [puts, Act.put, List.setIfInBounds_toArray, List.set_cons_zero, List.set_cons_succ]
  go_wp2
  go_ret
  exact ⟨rfl, B9.out⟩

end Walk
end Go.Proofs.Ytdikimddkhahdaa
