/-
  FitsKnown, way 3.
-/
import Derived.Test.YtdikimddkhahdaaFitsLits
import Derived.Test.YtdikimddkhahdaaRowRefs
import Derived.Test.YtdikimddkhahdaaRowBase
namespace Go.Proofs.Ytdikimddkhahdaa
open Go.RowKit
set_option linter.unusedVariables false
set_option linter.unusedSimpArgs false

namespace Walk

set_option maxHeartbeats 8000000 in
set_option maxRecDepth 100000 in
theorem fitsKnown3 (w : World) : Calls Try.prog 8 #[.int .i64 3] w fun e w' => e = .returned (.bool true) ∧ Below w.heap.size w w' := by
  have S := some_zero [10, 10, 0] 0 (some ⟨w.heap.size, 0, none⟩) 3 3 (w.alloc (.cells #[.int .i64 10, .int .i64 10, .int .i64 0] 2)) (Sl.new .i64 w 2 (0, 0) [10, 10, 0] (by decide)) (by omega) (by decide) (by decide) (by decide)
  obtain ⟨H, hH⟩ : ∃ H, (w.alloc (.cells #[.int .i64 10, .int .i64 10, .int .i64 0] 2)).heap.size = H := ⟨_, rfl⟩
  have HH : Hid (H = w.heap.size + 1) := by show _ = _; rw [← hH, size_alloc]
  unfold SomeEnd3 at S
  rw [hH] at S
  clear hH
  obtain ⟨b0, hb0⟩ : ∃ x, H + 1 = x := ⟨_, rfl⟩
  obtain ⟨sB, hsB⟩ : ∃ x, H + 4 = x := ⟨_, rfl⟩
  obtain ⟨sM, hsM⟩ : ∃ x, H + 5 = x := ⟨_, rfl⟩
  obtain ⟨p0, hp0⟩ : ∃ x, H + 6 = x := ⟨_, rfl⟩
  obtain ⟨p1, hp1⟩ : ∃ x, H + 7 = x := ⟨_, rfl⟩
  obtain ⟨sP, hsP⟩ : ∃ x, H + 9 = x := ⟨_, rfl⟩
  have HLIES : Hid (b0 = H + 1 ∧ sB = H + 4 ∧ sM = H + 5 ∧ p0 = H + 6 ∧ p1 = H + 7 ∧ sP = H + 9) := ⟨hb0.symm, hsB.symm, hsM.symm, hp0.symm, hp1.symm, hsP.symm⟩
  have K := known15
  clear hb0 hsB hsM hp0 hp1 hsP
  go_enter Try.func8, Try.ntmps8
  go_wp2_with fail
  go_at_call 19
  refine S.mono ?_
  rintro e w1 ⟨g, vc, he, lay, bel⟩
  have he : e = .returned (.agg #[.slice (some ⟨g, 0, none⟩) 3 vc, .slice (some ⟨sB, 0, none⟩) 3 3, .slice (some ⟨sM, 0, none⟩) 3 3, .slice (some ⟨sP, 0, none⟩) 3 3]) := by rw [he, HLIES.out.2.1, HLIES.out.2.2.1, HLIES.out.2.2.2.2.2]; rfl
  subst he
  have B1 : Hid (Below w.heap.size w w1) := (box_below _ _).trans (bel.mono (by rw [HH.out]; omega))
  obtain ⟨w2, hw2⟩ : ∃ w2, w2 = w1.alloc (.cells #[.slice (some ⟨g, 0, none⟩) 3 vc, .slice (some ⟨sB, 0, none⟩) 3 3, .slice (some ⟨sM, 0, none⟩) 3 3, .slice (some ⟨sP, 0, none⟩) 3 3] 26) := ⟨_, rfl⟩
  obtain ⟨z, hz⟩ : ∃ z, w1.heap.size = z := ⟨_, rfl⟩
  have HGT : Hid (H + 10 < g ∧ g < z) := ⟨lay.gt, by rw [← hz]; exact lay.lt⟩
  have L2 : Hid (Lay4 w2 H z g vc [(10, 0, 0), (10, 0, 0), (0, 0, 0)] [-1, -1, -1] [-1, -1, -1] [-1, -1, -1] [-1, -1, -1] [0, 0, 0] [0, 0, 0] [0, 0, 0]) := by
    refine ⟨by rw [hw2]; exact lay.below (box_below _ _), HGT.out.2, ?_⟩
    rw [hw2, ← hz, HLIES.out.2.1, HLIES.out.2.2.1, HLIES.out.2.2.2.2.2]
    exact heap_alloc_new w1 _
  have B2 : Hid (Below w.heap.size w w2) := by rw [hw2]; exact B1.out.alloc B1.out.size _
  clear S lay bel B1
  go_upto_region 2 with fail
  rw [← hw2]
  have HZ2 : Hid (z < w2.heap.size) := by show _ < _; rw [hw2, size_alloc, hz]; omega
  clear hw2 hz
  go_wp2_with fail
  go_at_call 23
  refine (func3_any _).mono ?_
  rintro e w3 ⟨f, rfl, hf, hp, hb⟩
  have HZF : Hid (z < f) := by have := HZ2.out; show z < f; omega
  have HL : Hid (Lay4 w3 H z g vc [(10, 0, 0), (10, 0, 0), (0, 0, 0)] [-1, -1, -1] [-1, -1, -1] [-1, -1, -1] [-1, -1, -1] [0, 0, 0] [0, 0, 0] [0, 0, 0]) := L2.out.below hb
  have HP : Hid (PBlk w3 f four) := hp
  have HB : Hid (Below w.heap.size w w3) := B2.out.trans (hb.mono B2.out.size)
  have HALL : Hid (b0 = H + 1 ∧ sB = H + 4 ∧ sM = H + 5 ∧ p0 = H + 6 ∧ p1 = H + 7 ∧ sP = H + 9 ∧ H + 10 < g ∧ g < z ∧ z < f ∧ H = w.heap.size + 1) := by
    have h1 := HLIES.out
    have h2 := HGT.out
    have h3 := HZF.out
    have h4 := HH.out
    show _ ∧ _
    omega
  clear hf hp hb L2 B2 HZ2 HGT HH
  go_upto_region 19 with fail
  obtain ⟨w4, hw4⟩ : ∃ x, x = (((w3.setCell ⟨b0, 1, none⟩ (.int .i64 0)).setCell ⟨p0, 1, none⟩ (.int .i64 2)).setCell ⟨p1, 0, none⟩ (.int .i64 (-2))).drew := ⟨_, rfl⟩
  have L4 : Hid (Lay4 w4 H z g vc [(10, 0, 0), (10, 0, 0), (0, 0, 0)] [-1, 0, -1] [-1, -1, -1] [-1, -1, -1] [-1, -1, -1] [0, 2, 0] [-2, 0, 0] [0, 0, 0]) := by rw [hw4]; obtain ⟨e0, e1, e2, e3, e4, e5⟩ := HLIES.out; rw [e0, e3, e4]; exact (((HL.out.setB0 1 0).setP0 1 2).setP1 0 (-2)).drew
  have P4 : Hid (PBlk w4 f [(1, 0, 1, 1, 3, 0, 0), (2, 0, 1, 1, 3, 0, 0), (3, 0, 2, 3, 3, 0, 0), (4, 1, 0, 2, 3, 0, 0)]) := by rw [hw4]; exact (((HP.out.far (by have := HALL.out; omega) 1 (.int .i64 0)).far (by have := HALL.out; omega) 1 (.int .i64 2)).far (by have := HALL.out; omega) 0 (.int .i64 (-2))).below (drawn_below _ 1)
  have B4 : Hid (Below w.heap.size w w4) := by rw [hw4]; exact (((HB.out.setCell (p := ⟨b0, 1, none⟩) (by have := HALL.out; show w.heap.size ≤ b0; omega) (.int .i64 0)).setCell (p := ⟨p0, 1, none⟩) (by have := HALL.out; show w.heap.size ≤ p0; omega) (.int .i64 2)).setCell (p := ⟨p1, 0, none⟩) (by have := HALL.out; show w.heap.size ≤ p1; omega) (.int .i64 (-2))).trans ((drawn_below _ 1).mono (by have := HB.out.size; simp [World.setCell]; exact this))
  have x1 : w3.cell? ⟨z, 1, none⟩ = some (.slice (some ⟨sB, 0, none⟩) 3 3) := by rw [HLIES.out.2.1]; exact HL.out.cell rfl
  have s0 : w3.cell? ⟨sB, 0, none⟩ = some (.slice (some ⟨b0, 0, none⟩) 3 3) := by rw [HLIES.out.2.1, HLIES.out.1]; rw [cell_of_row w3 _ 0 _ _ _ HL.out.lay.spB]; rfl
  have x3 : w3.cell? ⟨z, 3, none⟩ = some (.slice (some ⟨sP, 0, none⟩) 3 3) := by rw [HLIES.out.2.2.2.2.2]; exact HL.out.cell rfl
  have t0 : w3.cell? ⟨sP, 0, none⟩ = some (.slice (some ⟨p0, 0, none⟩) 3 3) := by rw [HLIES.out.2.2.2.2.2, HLIES.out.2.2.2.1]; rw [cell_of_row w3 _ 0 _ _ _ HL.out.lay.spP]; rfl
  have t1 : w3.cell? ⟨sP, 1, none⟩ = some (.slice (some ⟨p1, 0, none⟩) 3 3) := by rw [HLIES.out.2.2.2.2.2, HLIES.out.2.2.2.2.1]; rw [cell_of_row w3 _ 1 _ _ _ HL.out.lay.spP]; rfl
  have c0 : w3.cell? ⟨b0, 1, none⟩ = some (.int .i64 (-1)) := by rw [HLIES.out.1]; exact HL.out.lay.r0.cell (i := 1) (by simp)
  have f0 : w3.frozen? ⟨b0, 1, none⟩ = false := by rw [HLIES.out.1]; exact HL.out.lay.r0.free 1
  have c1 : w3.cell? ⟨p0, 1, none⟩ = some (.int .i64 0) := by rw [HLIES.out.2.2.2.1]; exact HL.out.lay.q0.cell (i := 1) (by simp)
  have f1 : w3.frozen? ⟨p0, 1, none⟩ = false := by rw [HLIES.out.2.2.2.1]; exact HL.out.lay.q0.free 1
  have c2 : w3.cell? ⟨p1, 0, none⟩ = some (.int .i64 0) := by rw [HLIES.out.2.2.2.2.1]; exact HL.out.lay.q1.cell (i := 0) (by simp)
  have f2 : w3.frozen? ⟨p1, 0, none⟩ = false := by rw [HLIES.out.2.2.2.2.1]; exact HL.out.lay.q1.free 0
  have nzb0 : ¬ z = b0 := by have := HALL.out; omega
  have nzp0 : ¬ z = p0 := by have := HALL.out; omega
  have nzp1 : ¬ z = p1 := by have := HALL.out; omega
  have nsBb0 : ¬ sB = b0 := by have := HALL.out; omega
  have nsBp0 : ¬ sB = p0 := by have := HALL.out; omega
  have nsBp1 : ¬ sB = p1 := by have := HALL.out; omega
  have nsPb0 : ¬ sP = b0 := by have := HALL.out; omega
  have nsPp0 : ¬ sP = p0 := by have := HALL.out; omega
  have nsPp1 : ¬ sP = p1 := by have := HALL.out; omega
  have nb0z : ¬ b0 = z := by have := HALL.out; omega
  have nb0sB : ¬ b0 = sB := by have := HALL.out; omega
  have nb0sP : ¬ b0 = sP := by have := HALL.out; omega
  have nb0p0 : ¬ b0 = p0 := by have := HALL.out; omega
  have nb0p1 : ¬ b0 = p1 := by have := HALL.out; omega
  have np0z : ¬ p0 = z := by have := HALL.out; omega
  have np0sB : ¬ p0 = sB := by have := HALL.out; omega
  have np0sP : ¬ p0 = sP := by have := HALL.out; omega
  have np0b0 : ¬ p0 = b0 := by have := HALL.out; omega
  have np0p1 : ¬ p0 = p1 := by have := HALL.out; omega
  have np1z : ¬ p1 = z := by have := HALL.out; omega
  have np1sB : ¬ p1 = sB := by have := HALL.out; omega
  have np1sP : ¬ p1 = sP := by have := HALL.out; omega
  have np1b0 : ¬ p1 = b0 := by have := HALL.out; omega
  have np1p0 : ¬ p1 = p0 := by have := HALL.out; omega
  go_region
  go_upto_region 20 with fail
  rw [← hw4]
  clear hw4 x1 s0 x3 t0 t1 c0 f0 c1 f1 c2 f2 nzb0 nzp0 nzp1 nsBb0 nsBp0 nsBp1 nsPb0 nsPp0 nsPp1 nb0z nb0sB nb0sP nb0p0 nb0p1 np0z np0sB np0sP np0b0 np0p1 np1z np1sB np1sP np1b0 np1p0 HL HP HB
  have HL := L4
  have HP := P4
  have HB := B4
  clear L4 P4 B4
  obtain ⟨bk, hbk⟩ : ∃ bk : Bks, bk = ⟨[(10, 0, 0), (10, 0, 0), (0, 0, 0)], [[-1, 0, -1], [-1, -1, -1], [-1, -1, -1]], [-1, -1, -1], [[0, 2, 0], [-2, 0, 0], [0, 0, 0]]⟩ := ⟨_, rfl⟩
  have GB : Hid (Good bk) := by rw [hbk]; exact booksB_yes.1 (by decide +kernel)
  have NB : Hid (Bk w4 ⟨some ⟨g, 0, none⟩, 3, vc, some ⟨sB, 0, none⟩, 3, 3, some ⟨sM, 0, none⟩, 3, 3, some ⟨sP, 0, none⟩, 3, 3⟩ bk) := by
    have := HL.out.bk ⟨rfl, rfl, rfl, rfl, rfl, rfl, rfl⟩ (by show ∀ z ∈ _, ∀ n ∈ z, IntKind.i64.wrap n = n; decide) (by show ∀ n ∈ _, IntKind.i64.wrap n = n; decide) (by show ∀ z ∈ _, ∀ n ∈ z, IntKind.i64.wrap n = n; decide)
    rw [hbk, HLIES.out.2.1, HLIES.out.2.2.1, HLIES.out.2.2.2.2.2]
    exact this
  have A0 : Hid (fitsB bk [(3, 0, 2, 3, 3, 0, 0)] = true) := by rw [hbk]; show _ = _; decide +kernel
  have A1 : Hid (fitsB bk [(1, 0, 1, 1, 3, 0, 0)] = false) := by rw [hbk]; show _ = _; decide +kernel
  have A2 : Hid (fitsB bk [(4, 1, 0, 2, 3, 0, 0)] = true) := by rw [hbk]; show _ = _; decide +kernel
  have C : Hid (∀ (a : Option Addr) (n c : Nat) (L : List P7) (u : World), Below w4.heap.size w4 u → PGood u a n c L → Calls Try.prog 12 #[.agg #[.slice (some ⟨g, 0, none⟩) 3 vc, .slice (some ⟨sB, 0, none⟩) 3 3, .slice (some ⟨sM, 0, none⟩) 3 3, .slice (some ⟨sP, 0, none⟩) 3 3], .slice a n c] u fun e w' => e = .returned (.bool (fitsB bk L)) ∧ Below u.heap.size u w') := fun a n c L u hu hg => fitsFits_any ⟨some ⟨g, 0, none⟩, 3, vc, some ⟨sB, 0, none⟩, 3, 3, some ⟨sM, 0, none⟩, 3, 3, some ⟨sP, 0, none⟩, 3, 3⟩ bk a n c L u (NB.out.below hu) GB.out hg
  clear hbk NB GB
  have Y0 : Hid (At7 w4 f 0 (1, 0, 1, 1, 3, 0, 0)) := ⟨HP.out.cell rfl, HP.out.cell rfl, HP.out.cell rfl, HP.out.cell rfl, HP.out.cell rfl, HP.out.cell rfl, HP.out.cell rfl⟩
  have Y2 : Hid (At7 w4 f 14 (3, 0, 2, 3, 3, 0, 0)) := ⟨HP.out.cell rfl, HP.out.cell rfl, HP.out.cell rfl, HP.out.cell rfl, HP.out.cell rfl, HP.out.cell rfl, HP.out.cell rfl⟩
  have Y3 : Hid (At7 w4 f 21 (4, 1, 0, 2, 3, 0, 0)) := ⟨HP.out.cell rfl, HP.out.cell rfl, HP.out.cell rfl, HP.out.cell rfl, HP.out.cell rfl, HP.out.cell rfl, HP.out.cell rfl⟩
  have X : Hid (Box4 w4 z ⟨some ⟨g, 0, none⟩, 3, vc, some ⟨sB, 0, none⟩, 3, 3, some ⟨sM, 0, none⟩, 3, 3, some ⟨sP, 0, none⟩, 3, 3⟩) := by
    refine ⟨HL.out.cell rfl, ?_, ?_, ?_⟩
    · show _ = some (Value.slice (some ⟨sB, 0, none⟩) 3 3)
      rw [HLIES.out.2.1]; exact HL.out.cell rfl
    · show _ = some (Value.slice (some ⟨sM, 0, none⟩) 3 3)
      rw [HLIES.out.2.2.1]; exact HL.out.cell rfl
    · show _ = some (Value.slice (some ⟨sP, 0, none⟩) 3 3)
      rw [HLIES.out.2.2.2.2.2]; exact HL.out.cell rfl
  clear HL HP HALL HLIES HZF
  refine region_owes (L := [Fact.is (.agg #[.slice (some ⟨g, 0, none⟩) 3 vc, .slice (some ⟨sB, 0, none⟩) 3 3, .slice (some ⟨sM, 0, none⟩) 3 3, .slice (some ⟨sP, 0, none⟩) 3 3]),
    Fact.is (.slice (some ⟨f, 0, none⟩) 4 4),
    Fact.is (.pointer (some ⟨f, 14, none⟩)),
    Fact.is (.agg #[.int .i64 3, .int .i64 0, .int .i64 2, .int .i64 3, .int .i64 3, .int .i64 0, .int .i64 0]),
    Fact.pnew 0 [(3, 0, 2, 3, 3, 0, 0)],
    Fact.is (.bool true),
    Fact.is (.bool true),
    Fact.is (.agg #[.slice (some ⟨g, 0, none⟩) 3 vc, .slice (some ⟨sB, 0, none⟩) 3 3, .slice (some ⟨sM, 0, none⟩) 3 3, .slice (some ⟨sP, 0, none⟩) 3 3]),
    Fact.is (.slice (some ⟨f, 0, none⟩) 4 4),
    Fact.is (.pointer (some ⟨f, 0, none⟩)),
    Fact.is (.agg #[.int .i64 1, .int .i64 0, .int .i64 1, .int .i64 1, .int .i64 3, .int .i64 0, .int .i64 0]),
    Fact.pnew 0 [(1, 0, 1, 1, 3, 0, 0)],
    Fact.is (.bool false),
    Fact.is (.bool true),
    Fact.is (.bool true),
    Fact.is (.bool true),
    Fact.is (.agg #[.slice (some ⟨g, 0, none⟩) 3 vc, .slice (some ⟨sB, 0, none⟩) 3 3, .slice (some ⟨sM, 0, none⟩) 3 3, .slice (some ⟨sP, 0, none⟩) 3 3]),
    Fact.is (.slice (some ⟨f, 0, none⟩) 4 4),
    Fact.is (.pointer (some ⟨f, 21, none⟩)),
    Fact.is (.agg #[.int .i64 4, .int .i64 1, .int .i64 0, .int .i64 2, .int .i64 3, .int .i64 0, .int .i64 0]),
    Fact.pnew 0 [(4, 1, 0, 2, 3, 0, 0)],
    Fact.is (.bool true),
    Fact.is (.bool true),
    Fact.is (.bool true),
    Fact.is (.bool true),
    Fact.is (.bool true),
    Fact.is (.bool true)])
    (T := [145, 146, 147, 148, 149, 150, 151, 152, 153, 154, 155, 156, 157, 158, 159, 160, 161, 162, 163, 164, 165, 166, 167, 168, 169, 170, 2]) (by kernel_rfl) (by kernel_rfl) rfl ?owes ?_
  case owes =>
    refine .cons (owes_value fun q u lh => ⟨wants_free rfl, .agg #[.slice (some ⟨g, 0, none⟩) 3 vc, .slice (some ⟨sB, 0, none⟩) 3 3, .slice (some ⟨sM, 0, none⟩) 3 3, .slice (some ⟨sP, 0, none⟩) 3 3], by have e3 : q.tmps.getD 3 undef = .pointer (some ⟨z, 0, none⟩) := lh.old 3 rfl; obtain ⟨q0, q1, q2, q3⟩ := X.out.below lh.below; simp [execOp, Act.eval, e3, q0, q1, q2, q3, go_sem], rfl⟩) ?_
    refine .cons (owes_move (.tmp 4) (.inl rfl) fun q u lh => ⟨wants_free rfl, lh.old 4 rfl⟩) ?_
    refine .cons (owes_value fun q u lh => ⟨wants_free rfl, .pointer (some ⟨f, 14, none⟩), by have e146 : q.tmps.getD 146 undef = .slice (some ⟨f, 0, none⟩) 4 4 := lh.dep 1 rfl; simp [execOp, Act.eval, e146, go_sem], rfl⟩) ?_
    refine .cons (owes_value fun q u lh => ⟨wants_free rfl, .agg #[.int .i64 3, .int .i64 0, .int .i64 2, .int .i64 3, .int .i64 3, .int .i64 0, .int .i64 0], by have e147 : q.tmps.getD 147 undef = .pointer (some ⟨f, 14, none⟩) := lh.dep 2 rfl; obtain ⟨y0, y1, y2, y3, y4, y5, y6⟩ := Y2.out.below lh.below; simp [execOp, Act.eval, e147, y0, y1, y2, y3, y4, y5, y6, go_sem], rfl⟩) ?_
    refine .cons (owes_make fun q u lh => ⟨wants_free rfl, .slice (some ⟨u.heap.size, 0, none⟩) 1 1, u.alloc (.cells #[.int .i64 3, .int .i64 0, .int .i64 2, .int .i64 3, .int .i64 3, .int .i64 0, .int .i64 0] 31), by have e148 : q.tmps[148]?.getD undef = .agg #[.int .i64 3, .int .i64 0, .int .i64 2, .int .i64 3, .int .i64 3, .int .i64 0, .int .i64 0] := (Array.getD_eq_getD_getElem? ..).symm.trans (lh.dep 3 rfl); simp [execOp, Act.eval, e148, go_sem], box_below _ _, ⟨_, _, rfl, PGood.lit1 u (3, 0, 2, 3, 3, 0, 0), fun x hx => Nat.zero_le _⟩⟩) ?_
    refine .cons (owes_call 12 Try.func12 (by kernel_rfl) (by kernel_rfl) [.tmp 145, .tmp 149] #[26, 27] rfl fun q u lh => ⟨wants_free rfl, by have e145 : q.tmps.getD 145 undef = .agg #[.slice (some ⟨g, 0, none⟩) 3 vc, .slice (some ⟨sB, 0, none⟩) 3 3, .slice (some ⟨sM, 0, none⟩) 3 3, .slice (some ⟨sP, 0, none⟩) 3 3] := lh.dep 0 rfl; obtain ⟨aa, cc, ea, ga, -⟩ := lh.dep 4 rfl; have ea : q.tmps.getD 149 undef = .slice aa 1 cc := ea; show Calls Try.prog 12 #[q.tmps.getD 145 undef, q.tmps.getD 149 undef] u _; rw [e145, ea, ← A0.out]; exact bool_fact (C.out aa 1 cc _ u lh.below ga)⟩) ?_
    refine .cons (owes_move (.tmp 150) (.inl rfl) fun q u lh => ⟨wants_free rfl, lh.dep 5 rfl⟩) ?_
    refine .cons (owes_value fun q u lh => ⟨lh.wants1 6 true rfl rfl rfl, .agg #[.slice (some ⟨g, 0, none⟩) 3 vc, .slice (some ⟨sB, 0, none⟩) 3 3, .slice (some ⟨sM, 0, none⟩) 3 3, .slice (some ⟨sP, 0, none⟩) 3 3], by have e3 : q.tmps.getD 3 undef = .pointer (some ⟨z, 0, none⟩) := lh.old 3 rfl; obtain ⟨q0, q1, q2, q3⟩ := X.out.below lh.below; simp [execOp, Act.eval, e3, q0, q1, q2, q3, go_sem], rfl⟩) ?_
    refine .cons (owes_move (.tmp 4) (.inl rfl) fun q u lh => ⟨lh.wants1 6 true rfl rfl rfl, lh.old 4 rfl⟩) ?_
    refine .cons (owes_value fun q u lh => ⟨lh.wants1 6 true rfl rfl rfl, .pointer (some ⟨f, 0, none⟩), by have e153 : q.tmps.getD 153 undef = .slice (some ⟨f, 0, none⟩) 4 4 := lh.dep 8 rfl; simp [execOp, Act.eval, e153, go_sem], rfl⟩) ?_
    refine .cons (owes_value fun q u lh => ⟨lh.wants1 6 true rfl rfl rfl, .agg #[.int .i64 1, .int .i64 0, .int .i64 1, .int .i64 1, .int .i64 3, .int .i64 0, .int .i64 0], by have e154 : q.tmps.getD 154 undef = .pointer (some ⟨f, 0, none⟩) := lh.dep 9 rfl; obtain ⟨y0, y1, y2, y3, y4, y5, y6⟩ := Y0.out.below lh.below; simp [execOp, Act.eval, e154, y0, y1, y2, y3, y4, y5, y6, go_sem], rfl⟩) ?_
    refine .cons (owes_make fun q u lh => ⟨lh.wants1 6 true rfl rfl rfl, .slice (some ⟨u.heap.size, 0, none⟩) 1 1, u.alloc (.cells #[.int .i64 1, .int .i64 0, .int .i64 1, .int .i64 1, .int .i64 3, .int .i64 0, .int .i64 0] 31), by have e155 : q.tmps[155]?.getD undef = .agg #[.int .i64 1, .int .i64 0, .int .i64 1, .int .i64 1, .int .i64 3, .int .i64 0, .int .i64 0] := (Array.getD_eq_getD_getElem? ..).symm.trans (lh.dep 10 rfl); simp [execOp, Act.eval, e155, go_sem], box_below _ _, ⟨_, _, rfl, PGood.lit1 u (1, 0, 1, 1, 3, 0, 0), fun x hx => Nat.zero_le _⟩⟩) ?_
    refine .cons (owes_call 12 Try.func12 (by kernel_rfl) (by kernel_rfl) [.tmp 152, .tmp 156] #[26, 27] rfl fun q u lh => ⟨lh.wants1 6 true rfl rfl rfl, by have e152 : q.tmps.getD 152 undef = .agg #[.slice (some ⟨g, 0, none⟩) 3 vc, .slice (some ⟨sB, 0, none⟩) 3 3, .slice (some ⟨sM, 0, none⟩) 3 3, .slice (some ⟨sP, 0, none⟩) 3 3] := lh.dep 7 rfl; obtain ⟨aa, cc, ea, ga, -⟩ := lh.dep 11 rfl; have ea : q.tmps.getD 156 undef = .slice aa 1 cc := ea; show Calls Try.prog 12 #[q.tmps.getD 152 undef, q.tmps.getD 156 undef] u _; rw [e152, ea, ← A1.out]; exact bool_fact (C.out aa 1 cc _ u lh.below ga)⟩) ?_
    refine .cons (owes_value fun q u lh => ⟨lh.wants1 6 true rfl rfl rfl, .bool true, by have e157 : q.tmps.getD 157 undef = .bool false := lh.dep 12 rfl; simp [execOp, Act.eval, e157, go_sem], rfl⟩) ?_
    refine .cons (owes_pick (.tmp 151) (.tmp 158) (.const (.bool false)) rfl fun q u lh => ⟨wants_free rfl, true, lh.dep 6 rfl, lh.dep 13 rfl⟩) ?_
    refine .cons (owes_move (.tmp 159) (.inl rfl) fun q u lh => ⟨wants_free rfl, lh.dep 14 rfl⟩) ?_
    refine .cons (owes_value fun q u lh => ⟨lh.wants1 15 true rfl rfl rfl, .agg #[.slice (some ⟨g, 0, none⟩) 3 vc, .slice (some ⟨sB, 0, none⟩) 3 3, .slice (some ⟨sM, 0, none⟩) 3 3, .slice (some ⟨sP, 0, none⟩) 3 3], by have e3 : q.tmps.getD 3 undef = .pointer (some ⟨z, 0, none⟩) := lh.old 3 rfl; obtain ⟨q0, q1, q2, q3⟩ := X.out.below lh.below; simp [execOp, Act.eval, e3, q0, q1, q2, q3, go_sem], rfl⟩) ?_
    refine .cons (owes_move (.tmp 4) (.inl rfl) fun q u lh => ⟨lh.wants1 15 true rfl rfl rfl, lh.old 4 rfl⟩) ?_
    refine .cons (owes_value fun q u lh => ⟨lh.wants1 15 true rfl rfl rfl, .pointer (some ⟨f, 21, none⟩), by have e162 : q.tmps.getD 162 undef = .slice (some ⟨f, 0, none⟩) 4 4 := lh.dep 17 rfl; simp [execOp, Act.eval, e162, go_sem], rfl⟩) ?_
    refine .cons (owes_value fun q u lh => ⟨lh.wants1 15 true rfl rfl rfl, .agg #[.int .i64 4, .int .i64 1, .int .i64 0, .int .i64 2, .int .i64 3, .int .i64 0, .int .i64 0], by have e163 : q.tmps.getD 163 undef = .pointer (some ⟨f, 21, none⟩) := lh.dep 18 rfl; obtain ⟨y0, y1, y2, y3, y4, y5, y6⟩ := Y3.out.below lh.below; simp [execOp, Act.eval, e163, y0, y1, y2, y3, y4, y5, y6, go_sem], rfl⟩) ?_
    refine .cons (owes_make fun q u lh => ⟨lh.wants1 15 true rfl rfl rfl, .slice (some ⟨u.heap.size, 0, none⟩) 1 1, u.alloc (.cells #[.int .i64 4, .int .i64 1, .int .i64 0, .int .i64 2, .int .i64 3, .int .i64 0, .int .i64 0] 31), by have e164 : q.tmps[164]?.getD undef = .agg #[.int .i64 4, .int .i64 1, .int .i64 0, .int .i64 2, .int .i64 3, .int .i64 0, .int .i64 0] := (Array.getD_eq_getD_getElem? ..).symm.trans (lh.dep 19 rfl); simp [execOp, Act.eval, e164, go_sem], box_below _ _, ⟨_, _, rfl, PGood.lit1 u (4, 1, 0, 2, 3, 0, 0), fun x hx => Nat.zero_le _⟩⟩) ?_
    refine .cons (owes_call 12 Try.func12 (by kernel_rfl) (by kernel_rfl) [.tmp 161, .tmp 165] #[26, 27] rfl fun q u lh => ⟨lh.wants1 15 true rfl rfl rfl, by have e161 : q.tmps.getD 161 undef = .agg #[.slice (some ⟨g, 0, none⟩) 3 vc, .slice (some ⟨sB, 0, none⟩) 3 3, .slice (some ⟨sM, 0, none⟩) 3 3, .slice (some ⟨sP, 0, none⟩) 3 3] := lh.dep 16 rfl; obtain ⟨aa, cc, ea, ga, -⟩ := lh.dep 20 rfl; have ea : q.tmps.getD 165 undef = .slice aa 1 cc := ea; show Calls Try.prog 12 #[q.tmps.getD 161 undef, q.tmps.getD 165 undef] u _; rw [e161, ea, ← A2.out]; exact bool_fact (C.out aa 1 cc _ u lh.below ga)⟩) ?_
    refine .cons (owes_pick (.tmp 160) (.tmp 166) (.const (.bool false)) rfl fun q u lh => ⟨wants_free rfl, true, lh.dep 15 rfl, lh.dep 21 rfl⟩) ?_
    refine .cons (owes_move (.tmp 167) (.inl rfl) fun q u lh => ⟨wants_free rfl, lh.dep 22 rfl⟩) ?_
    refine .cons (owes_call 18 Try.func18 (by kernel_rfl) (by kernel_rfl) [] #[] rfl fun q u lh => ⟨lh.wants1 23 true rfl rfl rfl, by show Calls Try.prog 18 #[] u _; exact bool_fact (K u)⟩) ?_
    refine .cons (owes_pick (.tmp 168) (.tmp 169) (.const (.bool false)) rfl fun q u lh => ⟨wants_free rfl, true, lh.dep 23 rfl, lh.dep 24 rfl⟩) ?_
    refine .cons (owes_move (.tmp 170) (.inr rfl) fun q u lh => ⟨wants_free rfl, lh.dep 25 rfl⟩) ?_
    exact .nil _
  intro q u hb hsz hdf hold hfact
  obtain ⟨v149, e149⟩ : ∃ v, q.tmps.getD 149 undef = v := ⟨_, rfl⟩
  have f149 : (Fact.pnew 0 [(3, 0, 2, 3, 3, 0, 0)]).1 u v149 := by rw [← e149]; exact hfact 4 (by decide)
  obtain ⟨v156, e156⟩ : ∃ v, q.tmps.getD 156 undef = v := ⟨_, rfl⟩
  have f156 : (Fact.pnew 0 [(1, 0, 1, 1, 3, 0, 0)]).1 u v156 := by rw [← e156]; exact hfact 11 (by decide)
  obtain ⟨v165, e165⟩ : ∃ v, q.tmps.getD 165 undef = v := ⟨_, rfl⟩
  have f165 : (Fact.pnew 0 [(4, 1, 0, 2, 3, 0, 0)]).1 u v165 := by rw [← e165]; exact hfact 20 (by decide)
  have B9 : Hid (Below w.heap.size w u) := HB.out.trans (hb.mono HB.out.size)
  obtain rfl := frame_puts hsz hdf [145, 146, 147, 148, 149, 150, 151, 152, 153, 154, 155, 156, 157, 158, 159, 160, 161, 162, 163, 164, 165, 166, 167, 168, 169, 170, 2] hold [(145, Value.agg #[.slice (some ⟨g, 0, none⟩) 3 vc, .slice (some ⟨sB, 0, none⟩) 3 3, .slice (some ⟨sM, 0, none⟩) 3 3, .slice (some ⟨sP, 0, none⟩) 3 3]), (146, Value.slice (some ⟨f, 0, none⟩) 4 4), (147, Value.pointer (some ⟨f, 14, none⟩)), (148, Value.agg #[.int .i64 3, .int .i64 0, .int .i64 2, .int .i64 3, .int .i64 3, .int .i64 0, .int .i64 0]), (149, v149), (150, Value.bool true), (151, Value.bool true), (152, Value.agg #[.slice (some ⟨g, 0, none⟩) 3 vc, .slice (some ⟨sB, 0, none⟩) 3 3, .slice (some ⟨sM, 0, none⟩) 3 3, .slice (some ⟨sP, 0, none⟩) 3 3]), (153, Value.slice (some ⟨f, 0, none⟩) 4 4), (154, Value.pointer (some ⟨f, 0, none⟩)), (155, Value.agg #[.int .i64 1, .int .i64 0, .int .i64 1, .int .i64 1, .int .i64 3, .int .i64 0, .int .i64 0]), (156, v156), (157, Value.bool false), (158, Value.bool true), (159, Value.bool true), (160, Value.bool true), (161, Value.agg #[.slice (some ⟨g, 0, none⟩) 3 vc, .slice (some ⟨sB, 0, none⟩) 3 3, .slice (some ⟨sM, 0, none⟩) 3 3, .slice (some ⟨sP, 0, none⟩) 3 3]), (162, Value.slice (some ⟨f, 0, none⟩) 4 4), (163, Value.pointer (some ⟨f, 21, none⟩)), (164, Value.agg #[.int .i64 4, .int .i64 1, .int .i64 0, .int .i64 2, .int .i64 3, .int .i64 0, .int .i64 0]), (165, v165), (166, Value.bool true), (167, Value.bool true), (168, Value.bool true), (169, Value.bool true), (170, Value.bool true), (2, Value.bool true)] ⟨hfact 0 (by decide), hfact 1 (by decide), hfact 2 (by decide), hfact 3 (by decide), e149, hfact 5 (by decide), hfact 6 (by decide), hfact 7 (by decide), hfact 8 (by decide), hfact 9 (by decide), hfact 10 (by decide), e156, hfact 12 (by decide), hfact 13 (by decide), hfact 14 (by decide), hfact 15 (by decide), hfact 16 (by decide), hfact 17 (by decide), hfact 18 (by decide), hfact 19 (by decide), e165, hfact 21 (by decide), hfact 22 (by decide), hfact 23 (by decide), hfact 24 (by decide), hfact 25 (by decide), hfact 26 (by decide), trivial⟩ rfl
  clear hsz hdf hold hfact
  clear hb
  simp only [puts, Act.put, List.setIfInBounds_toArray, List.set_cons_zero, List.set_cons_succ]
  go_wp2
  go_ret
  exact ⟨rfl, B9.out⟩

end Walk
end Go.Proofs.Ytdikimddkhahdaa
