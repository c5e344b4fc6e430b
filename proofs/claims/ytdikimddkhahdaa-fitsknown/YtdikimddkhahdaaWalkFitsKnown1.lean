/-
  FitsKnown, way 1.
-/
import Derived.Test.YtdikimddkhahdaaFitsLits
import Derived.Test.YtdikimddkhahdaaRowRefs
import Derived.Test.YtdikimddkhahdaaRowBase
namespace Go.Proofs.Ytdikimddkhahdaa
open Go.RowKit
set_option linter.unusedVariables false
set_option linter.unusedSimpArgs false

namespace Walk

set_option maxHeartbeats 8000000 in
set_option maxRecDepth 100000 in
theorem fitsKnown1 (w : World) : Calls Try.prog 8 #[.int .i64 1] w fun e w' => e = .returned (.bool true) ∧ Below w.heap.size w w' := by
  have S := some_zero [10, 10, 0] 0 (some ⟨w.heap.size, 0, none⟩) 3 3 (w.alloc (.cells #[.int .i64 10, .int .i64 10, .int .i64 0] 2)) (Sl.new .i64 w 2 (0, 0) [10, 10, 0] (by decide)) (by omega) (by decide) (by decide) (by decide)
  obtain ⟨H, hH⟩ : ∃ H, (w.alloc (.cells #[.int .i64 10, .int .i64 10, .int .i64 0] 2)).heap.size = H := ⟨_, rfl⟩
  have HH : Hid (H = w.heap.size + 1) := by show _ = _; rw [← hH, size_alloc]
  unfold SomeEnd3 at S
  rw [hH] at S
  clear hH
  obtain ⟨b0, hb0⟩ : ∃ x, H + 1 = x := ⟨_, rfl⟩
  obtain ⟨sB, hsB⟩ : ∃ x, H + 4 = x := ⟨_, rfl⟩
  obtain ⟨sM, hsM⟩ : ∃ x, H + 5 = x := ⟨_, rfl⟩
  obtain ⟨p0, hp0⟩ : ∃ x, H + 6 = x := ⟨_, rfl⟩
  obtain ⟨p1, hp1⟩ : ∃ x, H + 7 = x := ⟨_, rfl⟩
  obtain ⟨sP, hsP⟩ : ∃ x, H + 9 = x := ⟨_, rfl⟩
  have HLIES : Hid (b0 = H + 1 ∧ sB = H + 4 ∧ sM = H + 5 ∧ p0 = H + 6 ∧ p1 = H + 7 ∧ sP = H + 9) := ⟨hb0.symm, hsB.symm, hsM.symm, hp0.symm, hp1.symm, hsP.symm⟩
  have K := known15
  clear hb0 hsB hsM hp0 hp1 hsP
  go_enter Try.func8, Try.ntmps8
  go_wp2_with fail
  go_at_call 19
  refine S.mono ?_
  rintro e w1 ⟨g, vc, he, lay, bel⟩
  have he : e = .returned (.agg #[.slice (some ⟨g, 0, none⟩) 3 vc, .slice (some ⟨sB, 0, none⟩) 3 3, .slice (some ⟨sM, 0, none⟩) 3 3, .slice (some ⟨sP, 0, none⟩) 3 3]) := by rw [he, HLIES.out.2.1, HLIES.out.2.2.1, HLIES.out.2.2.2.2.2]; rfl
  subst he
  have B1 : Hid (Below w.heap.size w w1) := (box_below _ _).trans (bel.mono (by rw [HH.out]; omega))
  obtain ⟨w2, hw2⟩ : ∃ w2, w2 = w1.alloc (.cells #[.slice (some ⟨g, 0, none⟩) 3 vc, .slice (some ⟨sB, 0, none⟩) 3 3, .slice (some ⟨sM, 0, none⟩) 3 3, .slice (some ⟨sP, 0, none⟩) 3 3] 26) := ⟨_, rfl⟩
  obtain ⟨z, hz⟩ : ∃ z, w1.heap.size = z := ⟨_, rfl⟩
  have HGT : Hid (H + 10 < g ∧ g < z) := ⟨lay.gt, by rw [← hz]; exact lay.lt⟩
  have L2 : Hid (Lay4 w2 H z g vc [(10, 0, 0), (10, 0, 0), (0, 0, 0)] [-1, -1, -1] [-1, -1, -1] [-1, -1, -1] [-1, -1, -1] [0, 0, 0] [0, 0, 0] [0, 0, 0]) := by
    refine ⟨by rw [hw2]; exact lay.below (box_below _ _), HGT.out.2, ?_⟩
    rw [hw2, ← hz, HLIES.out.2.1, HLIES.out.2.2.1, HLIES.out.2.2.2.2.2]
    exact heap_alloc_new w1 _
  have B2 : Hid (Below w.heap.size w w2) := by rw [hw2]; exact B1.out.alloc B1.out.size _
  clear S lay bel B1
  go_upto_region 2 with fail
  rw [← hw2]
  have HZ2 : Hid (z < w2.heap.size) := by show _ < _; rw [hw2, size_alloc, hz]; omega
  clear hw2 hz
  go_wp2_with fail
  go_at_call 23
  refine (func3_any _).mono ?_
  rintro e w3 ⟨f, rfl, hf, hp, hb⟩
  have HZF : Hid (z < f) := by have := HZ2.out; show z < f; omega
  have HL : Hid (Lay4 w3 H z g vc [(10, 0, 0), (10, 0, 0), (0, 0, 0)] [-1, -1, -1] [-1, -1, -1] [-1, -1, -1] [-1, -1, -1] [0, 0, 0] [0, 0, 0] [0, 0, 0]) := L2.out.below hb
  have HP : Hid (PBlk w3 f four) := hp
  have HB : Hid (Below w.heap.size w w3) := B2.out.trans (hb.mono B2.out.size)
  have HALL : Hid (b0 = H + 1 ∧ sB = H + 4 ∧ sM = H + 5 ∧ p0 = H + 6 ∧ p1 = H + 7 ∧ sP = H + 9 ∧ H + 10 < g ∧ g < z ∧ z < f ∧ H = w.heap.size + 1) := by
    have h1 := HLIES.out
    have h2 := HGT.out
    have h3 := HZF.out
    have h4 := HH.out
    show _ ∧ _
    omega
  clear hf hp hb L2 B2 HZ2 HGT HH
  go_upto_region 10 with fail
  obtain ⟨w4, hw4⟩ : ∃ x, x = (w3.setCell ⟨b0, 1, none⟩ (.int .i64 4)) := ⟨_, rfl⟩
  have L4 : Hid (Lay4 w4 H z g vc [(10, 0, 0), (10, 0, 0), (0, 0, 0)] [-1, 4, -1] [-1, -1, -1] [-1, -1, -1] [-1, -1, -1] [0, 0, 0] [0, 0, 0] [0, 0, 0]) := by rw [hw4]; have e := HLIES.out.1; rw [e]; exact (HL.out.setB0 1 4)
  have P4 : Hid (PBlk w4 f [(1, 0, 1, 1, 3, 0, 0), (2, 0, 1, 1, 3, 0, 0), (3, 0, 2, 3, 3, 0, 0), (4, 1, 0, 2, 3, 0, 0)]) := by rw [hw4]; exact (HP.out.far (by have := HALL.out; omega) 1 (.int .i64 4))
  have B4 : Hid (Below w.heap.size w w4) := by rw [hw4]; exact (HB.out.setCell (p := ⟨b0, 1, none⟩) (by have := HALL.out; show w.heap.size ≤ b0; omega) (.int .i64 4))
  have x1 : w3.cell? ⟨z, 1, none⟩ = some (.slice (some ⟨sB, 0, none⟩) 3 3) := by rw [HLIES.out.2.1]; exact HL.out.cell rfl
  have s0 : w3.cell? ⟨sB, 0, none⟩ = some (.slice (some ⟨b0, 0, none⟩) 3 3) := by rw [HLIES.out.2.1, HLIES.out.1]; rw [cell_of_row w3 _ 0 _ _ _ HL.out.lay.spB]; rfl
  have c0 : w3.cell? ⟨b0, 1, none⟩ = some (.int .i64 (-1)) := by rw [HLIES.out.1]; exact HL.out.lay.r0.cell (i := 1) (by simp)
  have f0 : w3.frozen? ⟨b0, 1, none⟩ = false := by rw [HLIES.out.1]; exact HL.out.lay.r0.free 1
  go_upto_region 11 with fail
  rw [← hw4]
  clear hw4 x1 s0 c0 f0 HL HP HB
  have HL := L4
  have HP := P4
  have HB := B4
  clear L4 P4 B4
  go_upto_region 11 with fail
  obtain ⟨w5, hw5⟩ : ∃ x, x = (w4.setCell ⟨f, 3, none⟩ (.int .i64 5)) := ⟨_, rfl⟩
  have L5 : Hid (Lay4 w5 H z g vc [(10, 0, 0), (10, 0, 0), (0, 0, 0)] [-1, 4, -1] [-1, -1, -1] [-1, -1, -1] [-1, -1, -1] [0, 0, 0] [0, 0, 0] [0, 0, 0]) := by rw [hw5]; exact (HL.out.far HZF.out 3 (.int .i64 5))
  have P5 : Hid (PBlk w5 f [(1, 0, 1, 5, 3, 0, 0), (2, 0, 1, 1, 3, 0, 0), (3, 0, 2, 3, 3, 0, 0), (4, 1, 0, 2, 3, 0, 0)]) := by rw [hw5]; exact (HP.out.set 3 (.int .i64 5) [(1, 0, 1, 5, 3, 0, 0), (2, 0, 1, 1, 3, 0, 0), (3, 0, 2, 3, 3, 0, 0), (4, 1, 0, 2, 3, 0, 0)] rfl)
  have B5 : Hid (Below w.heap.size w w5) := by rw [hw5]; exact (HB.out.setCell (p := ⟨f, 3, none⟩) (by have := HALL.out; show w.heap.size ≤ f; omega) (.int .i64 5))
  have c0 : w4.cell? ⟨f, 3, none⟩ = some (.int .i64 1) := HP.out.cell rfl
  have f0 := HP.out.free 3
  go_upto_region 12 with fail
  rw [← hw5]
  clear hw5 c0 f0 HL HP HB
  have HL := L5
  have HP := P5
  have HB := B5
  clear L5 P5 B5
  obtain ⟨bk, hbk⟩ : ∃ bk : Bks, bk = ⟨[(10, 0, 0), (10, 0, 0), (0, 0, 0)], [[-1, 4, -1], [-1, -1, -1], [-1, -1, -1]], [-1, -1, -1], [[0, 0, 0], [0, 0, 0], [0, 0, 0]]⟩ := ⟨_, rfl⟩
  have GB : Hid (Good bk) := by rw [hbk]; exact booksB_yes.1 (by decide +kernel)
  have NB : Hid (Bk w5 ⟨some ⟨g, 0, none⟩, 3, vc, some ⟨sB, 0, none⟩, 3, 3, some ⟨sM, 0, none⟩, 3, 3, some ⟨sP, 0, none⟩, 3, 3⟩ bk) := by
    have := HL.out.bk ⟨rfl, rfl, rfl, rfl, rfl, rfl, rfl⟩ (by show ∀ z ∈ _, ∀ n ∈ z, IntKind.i64.wrap n = n; decide) (by show ∀ n ∈ _, IntKind.i64.wrap n = n; decide) (by show ∀ z ∈ _, ∀ n ∈ z, IntKind.i64.wrap n = n; decide)
    rw [hbk, HLIES.out.2.1, HLIES.out.2.2.1, HLIES.out.2.2.2.2.2]
    exact this
  have A0 : Hid (fitsB bk [(1, 0, 1, 5, 3, 0, 0)] = false) := by rw [hbk]; show _ = _; decide +kernel
  have A1 : Hid (fitsB bk [(1, 0, 1, 5, 3, 0, 0), (4, 1, 0, 2, 3, 0, 0)] = true) := by rw [hbk]; show _ = _; decide +kernel
  have C : Hid (∀ (a : Option Addr) (n c : Nat) (L : List P7) (u : World), Below w5.heap.size w5 u → PGood u a n c L → Calls Try.prog 12 #[.agg #[.slice (some ⟨g, 0, none⟩) 3 vc, .slice (some ⟨sB, 0, none⟩) 3 3, .slice (some ⟨sM, 0, none⟩) 3 3, .slice (some ⟨sP, 0, none⟩) 3 3], .slice a n c] u fun e w' => e = .returned (.bool (fitsB bk L)) ∧ Below u.heap.size u w') := fun a n c L u hu hg => fitsFits_any ⟨some ⟨g, 0, none⟩, 3, vc, some ⟨sB, 0, none⟩, 3, 3, some ⟨sM, 0, none⟩, 3, 3, some ⟨sP, 0, none⟩, 3, 3⟩ bk a n c L u (NB.out.below hu) GB.out hg
  clear hbk NB GB
  have Y0 : Hid (At7 w5 f 0 (1, 0, 1, 5, 3, 0, 0)) := ⟨HP.out.cell rfl, HP.out.cell rfl, HP.out.cell rfl, HP.out.cell rfl, HP.out.cell rfl, HP.out.cell rfl, HP.out.cell rfl⟩
  have Y3 : Hid (At7 w5 f 21 (4, 1, 0, 2, 3, 0, 0)) := ⟨HP.out.cell rfl, HP.out.cell rfl, HP.out.cell rfl, HP.out.cell rfl, HP.out.cell rfl, HP.out.cell rfl, HP.out.cell rfl⟩
  have X : Hid (Box4 w5 z ⟨some ⟨g, 0, none⟩, 3, vc, some ⟨sB, 0, none⟩, 3, 3, some ⟨sM, 0, none⟩, 3, 3, some ⟨sP, 0, none⟩, 3, 3⟩) := by
    refine ⟨HL.out.cell rfl, ?_, ?_, ?_⟩
    · show _ = some (Value.slice (some ⟨sB, 0, none⟩) 3 3)
      rw [HLIES.out.2.1]; exact HL.out.cell rfl
    · show _ = some (Value.slice (some ⟨sM, 0, none⟩) 3 3)
      rw [HLIES.out.2.2.1]; exact HL.out.cell rfl
    · show _ = some (Value.slice (some ⟨sP, 0, none⟩) 3 3)
      rw [HLIES.out.2.2.2.2.2]; exact HL.out.cell rfl
  clear HL HP HALL HLIES HZF
  refine region_owes (L := [Fact.is (.agg #[.slice (some ⟨g, 0, none⟩) 3 vc, .slice (some ⟨sB, 0, none⟩) 3 3, .slice (some ⟨sM, 0, none⟩) 3 3, .slice (some ⟨sP, 0, none⟩) 3 3]),
    Fact.is (.slice (some ⟨f, 0, none⟩) 4 4),
    Fact.is (.pointer (some ⟨f, 0, none⟩)),
    Fact.is (.agg #[.int .i64 1, .int .i64 0, .int .i64 1, .int .i64 5, .int .i64 3, .int .i64 0, .int .i64 0]),
    Fact.pnew 0 [(1, 0, 1, 5, 3, 0, 0)],
    Fact.is (.bool false),
    Fact.is (.bool true),
    Fact.is (.bool true),
    Fact.is (.agg #[.slice (some ⟨g, 0, none⟩) 3 vc, .slice (some ⟨sB, 0, none⟩) 3 3, .slice (some ⟨sM, 0, none⟩) 3 3, .slice (some ⟨sP, 0, none⟩) 3 3]),
    Fact.is (.slice (some ⟨f, 0, none⟩) 4 4),
    Fact.is (.pointer (some ⟨f, 0, none⟩)),
    Fact.is (.agg #[.int .i64 1, .int .i64 0, .int .i64 1, .int .i64 5, .int .i64 3, .int .i64 0, .int .i64 0]),
    Fact.is (.slice (some ⟨f, 0, none⟩) 4 4),
    Fact.is (.pointer (some ⟨f, 21, none⟩)),
    Fact.is (.agg #[.int .i64 4, .int .i64 1, .int .i64 0, .int .i64 2, .int .i64 3, .int .i64 0, .int .i64 0]),
    Fact.pnew 0 [(1, 0, 1, 5, 3, 0, 0), (4, 1, 0, 2, 3, 0, 0)],
    Fact.is (.bool true),
    Fact.is (.bool true),
    Fact.is (.bool true),
    Fact.is (.bool true),
    Fact.is (.bool true),
    Fact.is (.bool true)])
    (T := [61, 62, 63, 64, 65, 66, 67, 68, 69, 70, 71, 72, 73, 74, 75, 76, 77, 78, 79, 80, 81, 2]) (by kernel_rfl) (by kernel_rfl) rfl ?owes ?_
  case owes =>
    refine .cons (owes_value fun q u lh => ⟨wants_free rfl, .agg #[.slice (some ⟨g, 0, none⟩) 3 vc, .slice (some ⟨sB, 0, none⟩) 3 3, .slice (some ⟨sM, 0, none⟩) 3 3, .slice (some ⟨sP, 0, none⟩) 3 3], by have e3 : q.tmps.getD 3 undef = .pointer (some ⟨z, 0, none⟩) := lh.old 3 rfl; obtain ⟨q0, q1, q2, q3⟩ := X.out.below lh.below; simp [execOp, Act.eval, e3, q0, q1, q2, q3, go_sem], rfl⟩) ?_
    refine .cons (owes_move (.tmp 4) (.inl rfl) fun q u lh => ⟨wants_free rfl, lh.old 4 rfl⟩) ?_
    refine .cons (owes_value fun q u lh => ⟨wants_free rfl, .pointer (some ⟨f, 0, none⟩), by have e62 : q.tmps.getD 62 undef = .slice (some ⟨f, 0, none⟩) 4 4 := lh.dep 1 rfl; simp [execOp, Act.eval, e62, go_sem], rfl⟩) ?_
    refine .cons (owes_value fun q u lh => ⟨wants_free rfl, .agg #[.int .i64 1, .int .i64 0, .int .i64 1, .int .i64 5, .int .i64 3, .int .i64 0, .int .i64 0], by have e63 : q.tmps.getD 63 undef = .pointer (some ⟨f, 0, none⟩) := lh.dep 2 rfl; obtain ⟨y0, y1, y2, y3, y4, y5, y6⟩ := Y0.out.below lh.below; simp [execOp, Act.eval, e63, y0, y1, y2, y3, y4, y5, y6, go_sem], rfl⟩) ?_
    refine .cons (owes_make fun q u lh => ⟨wants_free rfl, .slice (some ⟨u.heap.size, 0, none⟩) 1 1, u.alloc (.cells #[.int .i64 1, .int .i64 0, .int .i64 1, .int .i64 5, .int .i64 3, .int .i64 0, .int .i64 0] 31), by have e64 : q.tmps[64]?.getD undef = .agg #[.int .i64 1, .int .i64 0, .int .i64 1, .int .i64 5, .int .i64 3, .int .i64 0, .int .i64 0] := (Array.getD_eq_getD_getElem? ..).symm.trans (lh.dep 3 rfl); simp [execOp, Act.eval, e64, go_sem], box_below _ _, ⟨_, _, rfl, PGood.lit1 u (1, 0, 1, 5, 3, 0, 0), fun x hx => Nat.zero_le _⟩⟩) ?_
    refine .cons (owes_call 12 Try.func12 (by kernel_rfl) (by kernel_rfl) [.tmp 61, .tmp 65] #[26, 27] rfl fun q u lh => ⟨wants_free rfl, by have e61 : q.tmps.getD 61 undef = .agg #[.slice (some ⟨g, 0, none⟩) 3 vc, .slice (some ⟨sB, 0, none⟩) 3 3, .slice (some ⟨sM, 0, none⟩) 3 3, .slice (some ⟨sP, 0, none⟩) 3 3] := lh.dep 0 rfl; obtain ⟨aa, cc, ea, ga, -⟩ := lh.dep 4 rfl; have ea : q.tmps.getD 65 undef = .slice aa 1 cc := ea; show Calls Try.prog 12 #[q.tmps.getD 61 undef, q.tmps.getD 65 undef] u _; rw [e61, ea, ← A0.out]; exact bool_fact (C.out aa 1 cc _ u lh.below ga)⟩) ?_
    refine .cons (owes_value fun q u lh => ⟨wants_free rfl, .bool true, by have e66 : q.tmps.getD 66 undef = .bool false := lh.dep 5 rfl; simp [execOp, Act.eval, e66, go_sem], rfl⟩) ?_
    refine .cons (owes_move (.tmp 67) (.inl rfl) fun q u lh => ⟨wants_free rfl, lh.dep 6 rfl⟩) ?_
    refine .cons (owes_value fun q u lh => ⟨lh.wants1 7 true rfl rfl rfl, .agg #[.slice (some ⟨g, 0, none⟩) 3 vc, .slice (some ⟨sB, 0, none⟩) 3 3, .slice (some ⟨sM, 0, none⟩) 3 3, .slice (some ⟨sP, 0, none⟩) 3 3], by have e3 : q.tmps.getD 3 undef = .pointer (some ⟨z, 0, none⟩) := lh.old 3 rfl; obtain ⟨q0, q1, q2, q3⟩ := X.out.below lh.below; simp [execOp, Act.eval, e3, q0, q1, q2, q3, go_sem], rfl⟩) ?_
    refine .cons (owes_move (.tmp 4) (.inl rfl) fun q u lh => ⟨lh.wants1 7 true rfl rfl rfl, lh.old 4 rfl⟩) ?_
    refine .cons (owes_value fun q u lh => ⟨lh.wants1 7 true rfl rfl rfl, .pointer (some ⟨f, 0, none⟩), by have e70 : q.tmps.getD 70 undef = .slice (some ⟨f, 0, none⟩) 4 4 := lh.dep 9 rfl; simp [execOp, Act.eval, e70, go_sem], rfl⟩) ?_
    refine .cons (owes_value fun q u lh => ⟨lh.wants1 7 true rfl rfl rfl, .agg #[.int .i64 1, .int .i64 0, .int .i64 1, .int .i64 5, .int .i64 3, .int .i64 0, .int .i64 0], by have e71 : q.tmps.getD 71 undef = .pointer (some ⟨f, 0, none⟩) := lh.dep 10 rfl; obtain ⟨y0, y1, y2, y3, y4, y5, y6⟩ := Y0.out.below lh.below; simp [execOp, Act.eval, e71, y0, y1, y2, y3, y4, y5, y6, go_sem], rfl⟩) ?_
    refine .cons (owes_move (.tmp 4) (.inl rfl) fun q u lh => ⟨lh.wants1 7 true rfl rfl rfl, lh.old 4 rfl⟩) ?_
    refine .cons (owes_value fun q u lh => ⟨lh.wants1 7 true rfl rfl rfl, .pointer (some ⟨f, 21, none⟩), by have e73 : q.tmps.getD 73 undef = .slice (some ⟨f, 0, none⟩) 4 4 := lh.dep 12 rfl; simp [execOp, Act.eval, e73, go_sem], rfl⟩) ?_
    refine .cons (owes_value fun q u lh => ⟨lh.wants1 7 true rfl rfl rfl, .agg #[.int .i64 4, .int .i64 1, .int .i64 0, .int .i64 2, .int .i64 3, .int .i64 0, .int .i64 0], by have e74 : q.tmps.getD 74 undef = .pointer (some ⟨f, 21, none⟩) := lh.dep 13 rfl; obtain ⟨y0, y1, y2, y3, y4, y5, y6⟩ := Y3.out.below lh.below; simp [execOp, Act.eval, e74, y0, y1, y2, y3, y4, y5, y6, go_sem], rfl⟩) ?_
    refine .cons (owes_make fun q u lh => ⟨lh.wants1 7 true rfl rfl rfl, .slice (some ⟨u.heap.size, 0, none⟩) 2 2, u.alloc (.cells #[.int .i64 1, .int .i64 0, .int .i64 1, .int .i64 5, .int .i64 3, .int .i64 0, .int .i64 0, .int .i64 4, .int .i64 1, .int .i64 0, .int .i64 2, .int .i64 3, .int .i64 0, .int .i64 0] 31), by have e72 : q.tmps[72]?.getD undef = .agg #[.int .i64 1, .int .i64 0, .int .i64 1, .int .i64 5, .int .i64 3, .int .i64 0, .int .i64 0] := (Array.getD_eq_getD_getElem? ..).symm.trans (lh.dep 11 rfl); have e75 : q.tmps[75]?.getD undef = .agg #[.int .i64 4, .int .i64 1, .int .i64 0, .int .i64 2, .int .i64 3, .int .i64 0, .int .i64 0] := (Array.getD_eq_getD_getElem? ..).symm.trans (lh.dep 14 rfl); simp [execOp, Act.eval, e72, e75, go_sem], box_below _ _, ⟨_, _, rfl, PGood.lit2 u (1, 0, 1, 5, 3, 0, 0) (4, 1, 0, 2, 3, 0, 0), fun x hx => Nat.zero_le _⟩⟩) ?_
    refine .cons (owes_call 12 Try.func12 (by kernel_rfl) (by kernel_rfl) [.tmp 69, .tmp 76] #[26, 27] rfl fun q u lh => ⟨lh.wants1 7 true rfl rfl rfl, by have e69 : q.tmps.getD 69 undef = .agg #[.slice (some ⟨g, 0, none⟩) 3 vc, .slice (some ⟨sB, 0, none⟩) 3 3, .slice (some ⟨sM, 0, none⟩) 3 3, .slice (some ⟨sP, 0, none⟩) 3 3] := lh.dep 8 rfl; obtain ⟨aa, cc, ea, ga, -⟩ := lh.dep 15 rfl; have ea : q.tmps.getD 76 undef = .slice aa 2 cc := ea; show Calls Try.prog 12 #[q.tmps.getD 69 undef, q.tmps.getD 76 undef] u _; rw [e69, ea, ← A1.out]; exact bool_fact (C.out aa 2 cc _ u lh.below ga)⟩) ?_
    refine .cons (owes_pick (.tmp 68) (.tmp 77) (.const (.bool false)) rfl fun q u lh => ⟨wants_free rfl, true, lh.dep 7 rfl, lh.dep 16 rfl⟩) ?_
    refine .cons (owes_move (.tmp 78) (.inl rfl) fun q u lh => ⟨wants_free rfl, lh.dep 17 rfl⟩) ?_
    refine .cons (owes_call 18 Try.func18 (by kernel_rfl) (by kernel_rfl) [] #[] rfl fun q u lh => ⟨lh.wants1 18 true rfl rfl rfl, by show Calls Try.prog 18 #[] u _; exact bool_fact (K u)⟩) ?_
    refine .cons (owes_pick (.tmp 79) (.tmp 80) (.const (.bool false)) rfl fun q u lh => ⟨wants_free rfl, true, lh.dep 18 rfl, lh.dep 19 rfl⟩) ?_
    refine .cons (owes_move (.tmp 81) (.inr rfl) fun q u lh => ⟨wants_free rfl, lh.dep 20 rfl⟩) ?_
    exact .nil _
  intro q u hb hsz hdf hold hfact
  obtain ⟨v65, e65⟩ : ∃ v, q.tmps.getD 65 undef = v := ⟨_, rfl⟩
  have f65 : (Fact.pnew 0 [(1, 0, 1, 5, 3, 0, 0)]).1 u v65 := by rw [← e65]; exact hfact 4 (by decide)
  obtain ⟨v76, e76⟩ : ∃ v, q.tmps.getD 76 undef = v := ⟨_, rfl⟩
  have f76 : (Fact.pnew 0 [(1, 0, 1, 5, 3, 0, 0), (4, 1, 0, 2, 3, 0, 0)]).1 u v76 := by rw [← e76]; exact hfact 15 (by decide)
  have B9 : Hid (Below w.heap.size w u) := HB.out.trans (hb.mono HB.out.size)
  obtain rfl := frame_puts hsz hdf [61, 62, 63, 64, 65, 66, 67, 68, 69, 70, 71, 72, 73, 74, 75, 76, 77, 78, 79, 80, 81, 2] hold [(61, Value.agg #[.slice (some ⟨g, 0, none⟩) 3 vc, .slice (some ⟨sB, 0, none⟩) 3 3, .slice (some ⟨sM, 0, none⟩) 3 3, .slice (some ⟨sP, 0, none⟩) 3 3]), (62, Value.slice (some ⟨f, 0, none⟩) 4 4), (63, Value.pointer (some ⟨f, 0, none⟩)), (64, Value.agg #[.int .i64 1, .int .i64 0, .int .i64 1, .int .i64 5, .int .i64 3, .int .i64 0, .int .i64 0]), (65, v65), (66, Value.bool false), (67, Value.bool true), (68, Value.bool true), (69, Value.agg #[.slice (some ⟨g, 0, none⟩) 3 vc, .slice (some ⟨sB, 0, none⟩) 3 3, .slice (some ⟨sM, 0, none⟩) 3 3, .slice (some ⟨sP, 0, none⟩) 3 3]), (70, Value.slice (some ⟨f, 0, none⟩) 4 4), (71, Value.pointer (some ⟨f, 0, none⟩)), (72, Value.agg #[.int .i64 1, .int .i64 0, .int .i64 1, .int .i64 5, .int .i64 3, .int .i64 0, .int .i64 0]), (73, Value.slice (some ⟨f, 0, none⟩) 4 4), (74, Value.pointer (some ⟨f, 21, none⟩)), (75, Value.agg #[.int .i64 4, .int .i64 1, .int .i64 0, .int .i64 2, .int .i64 3, .int .i64 0, .int .i64 0]), (76, v76), (77, Value.bool true), (78, Value.bool true), (79, Value.bool true), (80, Value.bool true), (81, Value.bool true), (2, Value.bool true)] ⟨hfact 0 (by decide), hfact 1 (by decide), hfact 2 (by decide), hfact 3 (by decide), e65, hfact 5 (by decide), hfact 6 (by decide), hfact 7 (by decide), hfact 8 (by decide), hfact 9 (by decide), hfact 10 (by decide), hfact 11 (by decide), hfact 12 (by decide), hfact 13 (by decide), hfact 14 (by decide), e76, hfact 16 (by decide), hfact 17 (by decide), hfact 18 (by decide), hfact 19 (by decide), hfact 20 (by decide), hfact 21 (by decide), trivial⟩ rfl
  clear hsz hdf hold hfact
  clear hb
  simp only [puts, Act.put, List.setIfInBounds_toArray, List.set_cons_zero, List.set_cons_succ]
  go_wp2
  go_ret
  exact ⟨rfl, B9.out⟩

end Walk
end Go.Proofs.Ytdikimddkhahdaa
