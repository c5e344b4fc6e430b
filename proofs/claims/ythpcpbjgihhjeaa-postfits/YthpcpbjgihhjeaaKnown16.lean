/-
  girolaw16.known: two of five.
-/
import Derived.Test.YthpcpbjgihhjeaaPostRef
import Derived.Test.YthpcpbjgihhjeaaFitsLits
import Derived.Test.YthpcpbjgihhjeaaLimOne
namespace Go.Proofs.Ythpcpbjgihhjeaa
open Go.RowKit
set_option linter.unusedVariables false
set_option linter.unusedSimpArgs false

theorem sameB_self (b : Bks) : sameB b b = true := sameB_yes.2 rfl
/-- What comes out of it. -/
def k16 : Bks := ⟨[(3, 0, 0), (2, 0, 0), (0, 0, 0)], [[-1, -1, -1], [-1, -1, -1], [-1, -1, -1]], [-1, -1, -1], [[0, 2, 0], [-2, 0, 0], [0, 0, 0]]⟩

set_option maxHeartbeats 8000000 in
set_option maxRecDepth 100000 in
theorem known16 (w : World) : Calls Try.prog 14 #[] w fun e w' => e = .returned (.bool true) ∧ Below w.heap.size w w' := by
  have S := some_any (some ⟨w.heap.size, 0, none⟩) 1 1 [5] 0 (w.alloc (.cells #[.int .i64 5] 2)) (Sl.new .i64 w 2 (0, 0) [5] (by decide)) (by decide)
  obtain ⟨bk, hbk⟩ : ∃ bk, someK [5] (bitB 0 1) (bitB 0 2) (bitB 0 4) = bk := ⟨_, rfl⟩
  rw [hbk] at S
  have HG : Hid (Good bk) := by rw [← hbk]; exact good_some _ _ _ _
  have F1 : Hid (postE bk [(1, 0, 1, 2, 1, 0, 0)] = 0) := by rw [← hbk]; show _ = _; decide +kernel
  have F2 : Hid (postR bk [(1, 0, 1, 2, 1, 0, 0)] = k16) := by rw [← hbk]; exact sameB_yes.1 (by decide +kernel)
  clear hbk
  go_enter Try.func14, Try.ntmps14
  go_wp2_with fail
  go_at_call 16
  refine S.mono ?_
  rintro e w1 ⟨y, rfl, nb, bel⟩
  clear S
  have B1 : Hid (Below w.heap.size w w1) := (box_below _ _).trans (bel.mono (by simp))
  have N1 : Hid (Bk w1 y bk) := nb.bk
  clear nb bel
  have P := post_any y bk (some ⟨w1.heap.size, 0, none⟩) 1 1 [(1, 0, 1, 2, 1, 0, 0)] _ (N1.out.below (box_below w1 _)) HG.out (PGood.lit1 w1 (1, 0, 1, 2, 1, 0, 0))
  unfold PostEnd at P
  rw [F1.out, F2.out] at P
  obtain ⟨bA, b1, b2, bB, b3, b4, bM, b5, b6, bP, b7, b8⟩ := y
  go_wp2_with fail
  go_at_call 11
  refine P.mono ?_
  rintro e w2 ⟨y, rfl, nb, bel⟩
  have B2 : Hid (Below w.heap.size w w2) := (B1.out.alloc B1.out.size _).trans (bel.mono (by rw [size_alloc]; have := B1.out.size; omega))
  have N2 : Hid (Bk w2 y k16) := nb.bk
  clear P nb bel B1 N1 HG F1 F2
  obtain ⟨yA, mA, eA, yB, mB, eB, yM, mM, eM, yP, mP, eP⟩ := y
  obtain ⟨w3, hw3⟩ : ∃ w3, w3 = w2.alloc (.cells #[.slice yA mA eA, .slice yB mB eB, .slice yM mM eM, .slice yP mP eP] 26) := ⟨_, rfl⟩
  have b3 : Below w2.heap.size w2 w3 := by rw [hw3]; exact box_below _ _
  have B3 : Hid (Below w.heap.size w w3) := B2.out.trans (b3.mono B2.out.size)
  have N3 : Hid (Bk w3 ⟨yA, mA, eA, yB, mB, eB, yM, mM, eM, yP, mP, eP⟩ k16) := N2.out.below b3
  have X3 : Hid (Box4 w3 w2.heap.size ⟨yA, mA, eA, yB, mB, eB, yM, mM, eM, yP, mP, eP⟩) := by rw [hw3]; exact Box4.new w2 ⟨yA, mA, eA, yB, mB, eB, yM, mM, eM, yP, mP, eP⟩ _ _
  have S := some_zero [3, 2] 0 (some ⟨w3.heap.size, 0, none⟩) 2 2 (w3.alloc (.cells #[.int .i64 3, .int .i64 2] 2)) (Sl.new .i64 w3 2 (0, 0) [3, 2] (by decide)) (by omega) (by decide) (by decide) (by decide)
  obtain ⟨H, hH⟩ : ∃ H, (w3.alloc (.cells #[.int .i64 3, .int .i64 2] 2)).heap.size = H := ⟨_, rfl⟩
  have HH : Hid (H = w3.heap.size + 1) := by show _ = _; rw [← hH, size_alloc]
  unfold SomeEnd3 at S
  rw [hH] at S
  clear hH b3 B2 N2
  obtain ⟨sB, hsB⟩ : ∃ x, H + 4 = x := ⟨_, rfl⟩
  obtain ⟨sM, hsM⟩ : ∃ x, H + 5 = x := ⟨_, rfl⟩
  obtain ⟨q0, hq0⟩ : ∃ x, H + 6 = x := ⟨_, rfl⟩
  obtain ⟨q1, hq1⟩ : ∃ x, H + 7 = x := ⟨_, rfl⟩
  obtain ⟨sP, hsP⟩ : ∃ x, H + 9 = x := ⟨_, rfl⟩
  have HLIES : Hid (sB = H + 4 ∧ sM = H + 5 ∧ q0 = H + 6 ∧ q1 = H + 7 ∧ sP = H + 9) := ⟨hsB.symm, hsM.symm, hq0.symm, hq1.symm, hsP.symm⟩
  clear hsB hsM hq0 hq1 hsP
  go_upto_region 2 with fail
  rw [← hw3]
  clear hw3
  go_wp2_with fail
  go_at_call 16
  refine S.mono ?_
  rintro e w4 ⟨g, vc, he, lay, bel⟩
  have he : e = .returned (.agg #[.slice (some ⟨g, 0, none⟩) 3 vc, .slice (some ⟨sB, 0, none⟩) 3 3, .slice (some ⟨sM, 0, none⟩) 3 3, .slice (some ⟨sP, 0, none⟩) 3 3]) := by rw [he, HLIES.out.1, HLIES.out.2.1, HLIES.out.2.2.2.2]; rfl
  subst he
  have b34 : Below w3.heap.size w3 w4 := (box_below _ _).trans (bel.mono (by rw [HH.out]; omega))
  obtain ⟨w5, hw5⟩ : ∃ w5, w5 = w4.alloc (.cells #[.slice (some ⟨g, 0, none⟩) 3 vc, .slice (some ⟨sB, 0, none⟩) 3 3, .slice (some ⟨sM, 0, none⟩) 3 3, .slice (some ⟨sP, 0, none⟩) 3 3] 26) := ⟨_, rfl⟩
  have b5 : Below w3.heap.size w3 w5 := by rw [hw5]; exact b34.alloc b34.size _
  obtain ⟨z, hz⟩ : ∃ z, w4.heap.size = z := ⟨_, rfl⟩
  have HGT : Hid (H + 10 < g ∧ g < z) := ⟨lay.gt, by rw [← hz]; exact lay.lt⟩
  have L5 : Hid (Lay4 w5 H z g vc [(3, 0, 0), (2, 0, 0), (0, 0, 0)] [-1, -1, -1] [-1, -1, -1] [-1, -1, -1] [-1, -1, -1] [0, 0, 0] [0, 0, 0] [0, 0, 0]) := by
    refine ⟨by rw [hw5]; exact lay.below (box_below _ _), HGT.out.2, ?_⟩
    rw [hw5, ← hz, HLIES.out.1, HLIES.out.2.1, HLIES.out.2.2.2.2]
    exact heap_alloc_new w4 _
  have W5 : Hid (Below w3.heap.size w3 w5) := b5
  clear S lay bel b34 b5
  go_upto_region 3 with fail
  rw [← hw5]
  clear hw5 hz
  have x3 : w5.cell? ⟨z, 3, none⟩ = some (.slice (some ⟨sP, 0, none⟩) 3 3) := by rw [HLIES.out.2.2.2.2]; exact L5.out.cell rfl
  have s0 : w5.cell? ⟨sP, 0, none⟩ = some (.slice (some ⟨q0, 0, none⟩) 3 3) := by rw [HLIES.out.2.2.2.2, HLIES.out.2.2.1, cell_of_row w5 _ 0 _ _ _ L5.out.lay.spP]; rfl
  have s1 : w5.cell? ⟨sP, 1, none⟩ = some (.slice (some ⟨q1, 0, none⟩) 3 3) := by rw [HLIES.out.2.2.2.2, HLIES.out.2.2.2.1, cell_of_row w5 _ 1 _ _ _ L5.out.lay.spP]; rfl
  have c0 : w5.cell? ⟨q0, 1, none⟩ = some (.int .i64 0) := by rw [HLIES.out.2.2.1, cell_of_row w5 _ 1 _ _ _ L5.out.lay.q0]; rfl
  have f0 : w5.frozen? ⟨q0, 1, none⟩ = false := by rw [HLIES.out.2.2.1]; exact frozen_of_row w5 _ 1 _ _ L5.out.lay.q0
  have c1 : w5.cell? ⟨q1, 0, none⟩ = some (.int .i64 0) := by rw [HLIES.out.2.2.2.1, cell_of_row w5 _ 0 _ _ _ L5.out.lay.q1]; rfl
  have f1 : w5.frozen? ⟨q1, 0, none⟩ = false := by rw [HLIES.out.2.2.2.1]; exact frozen_of_row w5 _ 0 _ _ L5.out.lay.q1
  go_region
  have L6 : Hid (Lay4 ((w5.setCell ⟨q0, 1, none⟩ (.int .i64 2)).setCell ⟨q1, 0, none⟩ (.int .i64 (-2))).drew H z g vc [(3, 0, 0), (2, 0, 0), (0, 0, 0)] [-1, -1, -1] [-1, -1, -1] [-1, -1, -1] [-1, -1, -1] [0, 2, 0] [-2, 0, 0] [0, 0, 0]) := by
    rw [HLIES.out.2.2.1, HLIES.out.2.2.2.1]
    exact ((L5.out.setP0 1 2).setP1 0 (-2)).drew
  have W6 : Hid (Below w3.heap.size w3 ((w5.setCell ⟨q0, 1, none⟩ (.int .i64 2)).setCell ⟨q1, 0, none⟩ (.int .i64 (-2))).drew) :=
    ((W5.out.setCell (p := ⟨q0, 1, none⟩) (by have := HLIES.out; have := HH.out; show w3.heap.size ≤ q0; omega) _).setCell (p := ⟨q1, 0, none⟩) (by have := HLIES.out; have := HH.out; show w3.heap.size ≤ q1; omega) _).drew
  generalize ((w5.setCell ⟨q0, 1, none⟩ (.int .i64 2)).setCell ⟨q1, 0, none⟩ (.int .i64 (-2))).drew = w6 at L6 W6 ⊢
  have NB : Hid (Bk w6 ⟨some ⟨g, 0, none⟩, 3, vc, some ⟨sB, 0, none⟩, 3, 3, some ⟨sM, 0, none⟩, 3, 3, some ⟨sP, 0, none⟩, 3, 3⟩ k16) := by
    have := L6.out.bk ⟨rfl, rfl, rfl, rfl, rfl, rfl, rfl⟩ (by show ∀ z ∈ _, ∀ n ∈ z, IntKind.i64.wrap n = n; decide) (by show ∀ n ∈ _, IntKind.i64.wrap n = n; decide) (by show ∀ z ∈ _, ∀ n ∈ z, IntKind.i64.wrap n = n; decide)
    rw [HLIES.out.1, HLIES.out.2.1, HLIES.out.2.2.2.2]
    exact this
  have X : Hid (Box4 w6 z ⟨some ⟨g, 0, none⟩, 3, vc, some ⟨sB, 0, none⟩, 3, 3, some ⟨sM, 0, none⟩, 3, 3, some ⟨sP, 0, none⟩, 3, 3⟩) := by
    refine ⟨L6.out.cell rfl, ?_, ?_, ?_⟩
    · show _ = some (Value.slice (some ⟨sB, 0, none⟩) 3 3)
      rw [HLIES.out.1]; exact L6.out.cell rfl
    · show _ = some (Value.slice (some ⟨sM, 0, none⟩) 3 3)
      rw [HLIES.out.2.1]; exact L6.out.cell rfl
    · show _ = some (Value.slice (some ⟨sP, 0, none⟩) 3 3)
      rw [HLIES.out.2.2.2.2]; exact L6.out.cell rfl
  have B6 : Hid (Below w.heap.size w w6) := B3.out.trans (W6.out.mono B3.out.size)
  have RS := refSame_any ⟨yA, mA, eA, yB, mB, eB, yM, mM, eM, yP, mP, eP⟩ ⟨some ⟨g, 0, none⟩, 3, vc, some ⟨sB, 0, none⟩, 3, 3, some ⟨sM, 0, none⟩, 3, 3, some ⟨sP, 0, none⟩, 3, 3⟩ k16 k16 w6 (N3.out.below W6.out) NB.out
  rw [sameB_self] at RS
  obtain ⟨p0, p1, p2, p3⟩ := X3.out.below W6.out
  replace p0 : w6.cell? ⟨w2.heap.size, 0, none⟩ = some (.slice yA mA eA) := p0
  replace p1 : w6.cell? ⟨w2.heap.size, 1, none⟩ = some (.slice yB mB eB) := p1
  replace p2 : w6.cell? ⟨w2.heap.size, 2, none⟩ = some (.slice yM mM eM) := p2
  replace p3 : w6.cell? ⟨w2.heap.size, 3, none⟩ = some (.slice yP mP eP) := p3
  obtain ⟨o0, o1, o2, o3⟩ := X.out
  replace o0 : w6.cell? ⟨z, 0, none⟩ = some (.slice (some ⟨g, 0, none⟩) 3 vc) := o0
  replace o1 : w6.cell? ⟨z, 1, none⟩ = some (.slice (some ⟨sB, 0, none⟩) 3 3) := o1
  replace o2 : w6.cell? ⟨z, 2, none⟩ = some (.slice (some ⟨sM, 0, none⟩) 3 3) := o2
  replace o3 : w6.cell? ⟨z, 3, none⟩ = some (.slice (some ⟨sP, 0, none⟩) 3 3) := o3
  clear L5 L6 W5 W6 NB X N3 X3 B3 HGT HLIES HH x3 s0 s1 c0 f0 c1 f1
  go_wp2_with fail
  go_at_call 13
  refine RS.mono ?_
  rintro e w7 ⟨rfl, hb⟩
  have B7 : Hid (Below w.heap.size w w7) := B6.out.trans (hb.mono B6.out.size)
  clear hb RS p0 p1 p2 p3 o0 o1 o2 o3 B6
  go_wp2
  go_ret
  exact ⟨rfl, B7.out⟩

end Go.Proofs.Ythpcpbjgihhjeaa
