/-
  FitsOne, part a.
-/
import Derived.Test.YtdikimddkhahdaaFitsOneW
import Derived.Test.YtdikimddkhahdaaFitsOnePure
import Derived.Test.YtdikimddkhahdaaKnown15
import Derived.Test.YtdikimddkhahdaaRowBase
import Derived.Deep.CutRange
namespace Go.Proofs.Ytdikimddkhahdaa
open Go.RowKit
set_option linter.unusedVariables false
set_option linter.unusedSimpArgs false
namespace Walk

set_option maxHeartbeats 8000000 in
set_option maxRecDepth 100000 in
theorem fitsOne_a (bal cr rs bil mul pos am cl : Int) (w : World) (hr : (0 ≤ bal ∧ bal ≤ 1000) ∧ (0 ≤ cr ∧ cr ≤ 1000) ∧ (0 ≤ rs ∧ rs ≤ 1000) ∧ ((-1) ≤ bil ∧ bil ≤ 1000) ∧ ((-1) ≤ mul ∧ mul ≤ 1000) ∧ ((-1000) ≤ pos ∧ pos ≤ 1000) ∧ (1 ≤ am ∧ am ≤ 2000) ∧ (1 ≤ cl ∧ cl ≤ 3)) (hc : am ≤ roomV bal cr rs cl → bil < 0) : Calls Try.prog 7 #[.int .i64 bal, .int .i64 cr, .int .i64 rs, .int .i64 bil, .int .i64 mul, .int .i64 pos, .int .i64 am, .int .i64 cl] w fun e w' => e = .returned (.bool true) ∧ Below w.heap.size w w' := by
  obtain ⟨⟨bal2, bal4⟩, ⟨cr2, cr4⟩, ⟨rs2, rs4⟩, ⟨bil2, bil4⟩, ⟨mul2, mul4⟩, ⟨pos2, pos4⟩, ⟨am2, am4⟩, ⟨cl2, cl4⟩⟩ := hr
  have bal1 : decide (bal < 0) = false := decide_eq_false (by omega)
  have bal3 : decide (1000 < bal) = false := decide_eq_false (by omega)
  have cr1 : decide (cr < 0) = false := decide_eq_false (by omega)
  have cr3 : decide (1000 < cr) = false := decide_eq_false (by omega)
  have rs1 : decide (rs < 0) = false := decide_eq_false (by omega)
  have rs3 : decide (1000 < rs) = false := decide_eq_false (by omega)
  have bil1 : decide (bil < (-1)) = false := decide_eq_false (by omega)
  have bil3 : decide (1000 < bil) = false := decide_eq_false (by omega)
  have mul1 : decide (mul < (-1)) = false := decide_eq_false (by omega)
  have mul3 : decide (1000 < mul) = false := decide_eq_false (by omega)
  have pos1 : decide (pos < (-1000)) = false := decide_eq_false (by omega)
  have pos3 : decide (1000 < pos) = false := decide_eq_false (by omega)
  have am1 : decide (am < 1) = false := decide_eq_false (by omega)
  have am3 : decide (2000 < am) = false := decide_eq_false (by omega)
  have cl1 : decide (cl < 1) = false := decide_eq_false (by omega)
  have cl3 : decide (3 < cl) = false := decide_eq_false (by omega)
  have S := some_zero [] 0 none 0 0 w (Sl.nil _ _ _) (by omega) (by decide) (by decide) (by decide)
  have GB : Hid (Good (oneK bal cr rs bil mul pos)) := good_one ⟨bal2, bal4⟩ ⟨cr2, cr4⟩ ⟨rs2, rs4⟩ ⟨bil2, bil4⟩ ⟨mul2, mul4⟩ ⟨pos2, pos4⟩
  have HF : Hid (fitsB (oneK bal cr rs bil mul pos) [(1, 0, 1, am, cl, 0, 0)] = (decide (am ≤ roomV bal cr rs cl) && ((decide (bil < 0) || decide (pos + am ≤ bil)) && (decide (mul < 0) || decide (pos + am ≤ mul))))) := fits_one rs2 bil2 mul2 ⟨am2, am4⟩ ⟨cl2, cl4⟩
  obtain ⟨s, hs⟩ : ∃ s, pos + am = s := ⟨_, rfl⟩
  have HWS : Hid (IntKind.i64.wrap (pos + am) = s) := by show _ = _; rw [hs]; exact i64_wf (by omega) (by omega)
  rw [hs] at HF
  clear hs
  have RM := fun u => refRoom_any bal cr rs cl (acctB_yes.2 ⟨by omega, by omega, by omega, by omega, by omega, by omega⟩) u
  have HWF : Hid (IntKind.i64.wrap bil = bil ∧ IntKind.i64.wrap mul = mul ∧ IntKind.i64.wrap pos = pos ∧ IntKind.i64.wrap (-pos) = -pos) := ⟨i64_wf (by omega) (by omega), i64_wf (by omega) (by omega), i64_wf (by omega) (by omega), i64_wf (by omega) (by omega)⟩
  obtain ⟨b0, hb0⟩ : ∃ x, w.heap.size + 1 = x := ⟨_, rfl⟩
  obtain ⟨sB, hsB⟩ : ∃ x, w.heap.size + 4 = x := ⟨_, rfl⟩
  obtain ⟨sM, hsM⟩ : ∃ x, w.heap.size + 5 = x := ⟨_, rfl⟩
  obtain ⟨p0, hp0⟩ : ∃ x, w.heap.size + 6 = x := ⟨_, rfl⟩
  obtain ⟨p1, hp1⟩ : ∃ x, w.heap.size + 7 = x := ⟨_, rfl⟩
  obtain ⟨sP, hsP⟩ : ∃ x, w.heap.size + 9 = x := ⟨_, rfl⟩
  have HLIES : Hid (b0 = w.heap.size + 1 ∧ sB = w.heap.size + 4 ∧ sM = w.heap.size + 5 ∧ p0 = w.heap.size + 6 ∧ p1 = w.heap.size + 7 ∧ sP = w.heap.size + 9) := ⟨hb0.symm, hsB.symm, hsM.symm, hp0.symm, hp1.symm, hsP.symm⟩
  have K := known15
  clear hb0 hsB hsM hp0 hp1 hsP
  go_enter Try.func7, Try.ntmps7
  go_wp2_with fail
  go_at_call 19
  refine S.mono ?_
  rintro e w1 ⟨g, vc, he, lay, bel⟩
  have he : e = .returned (.agg #[.slice (some ⟨g, 0, none⟩) 3 vc, .slice (some ⟨sB, 0, none⟩) 3 3, .slice (some ⟨sM, 0, none⟩) 3 3, .slice (some ⟨sP, 0, none⟩) 3 3]) := by rw [he, HLIES.out.2.1, HLIES.out.2.2.1, HLIES.out.2.2.2.2.2]; rfl
  subst he
  have B1 : Hid (Below w.heap.size w w1) := bel
  obtain ⟨w2, hw2⟩ : ∃ w2, w2 = w1.alloc (.cells #[.slice (some ⟨g, 0, none⟩) 3 vc, .slice (some ⟨sB, 0, none⟩) 3 3, .slice (some ⟨sM, 0, none⟩) 3 3, .slice (some ⟨sP, 0, none⟩) 3 3] 26) := ⟨_, rfl⟩
  obtain ⟨z, hz⟩ : ∃ z, w1.heap.size = z := ⟨_, rfl⟩
  have HGT : Hid (w.heap.size + 10 < g ∧ g < z) := ⟨lay.gt, by rw [← hz]; exact lay.lt⟩
  have L2 : Hid (Lay4 w2 w.heap.size z g vc [(0, 0, 0), (0, 0, 0), (0, 0, 0)] [-1, -1, -1] [-1, -1, -1] [-1, -1, -1] [-1, -1, -1] [0, 0, 0] [0, 0, 0] [0, 0, 0]) := by
    refine ⟨by rw [hw2]; exact lay.below (box_below _ _), HGT.out.2, ?_⟩
    rw [hw2, ← hz, HLIES.out.2.1, HLIES.out.2.2.1, HLIES.out.2.2.2.2.2]
    exact heap_alloc_new w1 _
  have B2 : Hid (Below w.heap.size w w2) := by rw [hw2]; exact B1.out.alloc B1.out.size _
  clear S lay bel B1 bal1 bal2 bal3 bal4 cr1 cr2 cr3 cr4 rs1 rs2 rs3 rs4 bil1 bil2 bil3 bil4 mul1 mul2 mul3 mul4 pos1 pos2 pos3 pos4 am1 am2 am3 am4 cl1 cl2 cl3 cl4
  go_upto_region 4 with fail
  rw [← hw2]
  clear hw2 hz
  have x0 : w2.cell? ⟨z, 0, none⟩ = some (.slice (some ⟨g, 0, none⟩) 3 vc) := L2.out.cell rfl
  have a0 : w2.cell? ⟨g, 0, none⟩ = some (.int .i64 0) := L2.out.acct (by omega) rfl
  have a1 : w2.cell? ⟨g, 1, none⟩ = some (.int .i64 0) := L2.out.acct (by omega) rfl
  have a2 : w2.cell? ⟨g, 2, none⟩ = some (.int .i64 0) := L2.out.acct (by omega) rfl
  have f0 := L2.out.free 0
  have f1 := L2.out.free 1
  have f2 := L2.out.free 2
  obtain ⟨w3, hw3⟩ : ∃ w3, w3 = ((w2.setCell ⟨g, 0, none⟩ (.int .i64 bal)).setCell ⟨g, 1, none⟩ (.int .i64 cr)).setCell ⟨g, 2, none⟩ (.int .i64 rs) := ⟨_, rfl⟩
  have L3 : Hid (Lay4 w3 w.heap.size z g vc [(bal, cr, rs), (0, 0, 0), (0, 0, 0)] [-1, -1, -1] [-1, -1, -1] [-1, -1, -1] [-1, -1, -1] [0, 0, 0] [0, 0, 0] [0, 0, 0]) := by
    rw [hw3]
    exact ((L2.out.setA 0 (.int .i64 bal) [(bal, 0, 0), (0, 0, 0), (0, 0, 0)] rfl rfl (by omega)).setA 1 (.int .i64 cr) [(bal, cr, 0), (0, 0, 0), (0, 0, 0)] rfl rfl (by omega)).setA 2 (.int .i64 rs) _ rfl rfl (by omega)
  have B3 : Hid (Below w.heap.size w w3) := by
    have := HGT.out
    rw [hw3]
    exact ((B2.out.setCell (p := ⟨g, 0, none⟩) (by show w.heap.size ≤ g; omega) _).setCell (p := ⟨g, 1, none⟩) (by show w.heap.size ≤ g; omega) _).setCell (p := ⟨g, 2, none⟩) (by show w.heap.size ≤ g; omega) _
  go_upto_region 5 with fail
  rw [← hw3]
  clear hw3 x0 a0 a1 a2 f0 f1 f2 L2 B2
  obtain ⟨w4, hw4⟩ : ∃ w4, w4 = ((((w3.setCell ⟨b0, 1, none⟩ (.int .i64 bil)).setCell ⟨sM, 0, none⟩ (.int .i64 mul)).setCell ⟨p0, 1, none⟩ (.int .i64 pos)).setCell ⟨p1, 0, none⟩ (.int .i64 (-pos))).drew := ⟨_, rfl⟩
  have L4 : Hid (Lay4 w4 w.heap.size z g vc [(bal, cr, rs), (0, 0, 0), (0, 0, 0)] [-1, bil, -1] [-1, -1, -1] [-1, -1, -1] [mul, -1, -1] [0, pos, 0] [-pos, 0, 0] [0, 0, 0]) := by
    rw [hw4]
    obtain ⟨e0, e1, e2, e3, e4, e5⟩ := HLIES.out
    rw [e0, e2, e3, e4]
    exact ((((L3.out.setB0 1 bil).setM 0 mul).setP0 1 pos).setP1 0 (-pos)).drew
  have B4 : Hid (Below w.heap.size w w4) := by
    have := HLIES.out
    rw [hw4]
    exact ((((B3.out.setCell (p := ⟨b0, 1, none⟩) (by show w.heap.size ≤ b0; omega) _).setCell (p := ⟨sM, 0, none⟩) (by show w.heap.size ≤ sM; omega) _).setCell (p := ⟨p0, 1, none⟩) (by show w.heap.size ≤ p0; omega) _).setCell (p := ⟨p1, 0, none⟩) (by show w.heap.size ≤ p1; omega) _).trans ((drawn_below _ 1).mono (by simp [World.setCell]; exact B3.out.size))
  have EB : w.heap.size + 4 = sB ∧ w.heap.size + 5 = sM ∧ w.heap.size + 9 = sP ∧ w.heap.size + 1 = b0 ∧ w.heap.size + 6 = p0 ∧ w.heap.size + 7 = p1 := by have := HLIES.out; omega
  have x1 : w3.cell? ⟨z, 1, none⟩ = some (.slice (some ⟨sB, 0, none⟩) 3 3) := by rw [← EB.1]; exact L3.out.cell rfl
  have x2 : w3.cell? ⟨z, 2, none⟩ = some (.slice (some ⟨sM, 0, none⟩) 3 3) := by rw [← EB.2.1]; exact L3.out.cell rfl
  have x3 : w3.cell? ⟨z, 3, none⟩ = some (.slice (some ⟨sP, 0, none⟩) 3 3) := by rw [← EB.2.2.1]; exact L3.out.cell rfl
  have s0 : w3.cell? ⟨sB, 0, none⟩ = some (.slice (some ⟨b0, 0, none⟩) 3 3) := by rw [← EB.1, ← EB.2.2.2.1]; rw [cell_of_row w3 _ 0 _ _ _ L3.out.lay.spB]; rfl
  have t0 : w3.cell? ⟨sP, 0, none⟩ = some (.slice (some ⟨p0, 0, none⟩) 3 3) := by rw [← EB.2.2.1, ← EB.2.2.2.2.1]; rw [cell_of_row w3 _ 0 _ _ _ L3.out.lay.spP]; rfl
  have t1 : w3.cell? ⟨sP, 1, none⟩ = some (.slice (some ⟨p1, 0, none⟩) 3 3) := by rw [← EB.2.2.1, ← EB.2.2.2.2.2]; rw [cell_of_row w3 _ 1 _ _ _ L3.out.lay.spP]; rfl
  have c0 : w3.cell? ⟨b0, 1, none⟩ = some (.int .i64 (-1)) := by rw [← EB.2.2.2.1]; exact L3.out.lay.r0.cell (i := 1) (by simp)
  have f0 : w3.frozen? ⟨b0, 1, none⟩ = false := by rw [← EB.2.2.2.1]; exact L3.out.lay.r0.free 1
  have c1 : w3.cell? ⟨sM, 0, none⟩ = some (.int .i64 (-1)) := by rw [← EB.2.1]; exact L3.out.lay.mul.cell (i := 0) (by simp)
  have f1 : w3.frozen? ⟨sM, 0, none⟩ = false := by rw [← EB.2.1]; exact L3.out.lay.mul.free 0
  have c2 : w3.cell? ⟨p0, 1, none⟩ = some (.int .i64 0) := by rw [← EB.2.2.2.2.1]; exact L3.out.lay.q0.cell (i := 1) (by simp)
  have f2 : w3.frozen? ⟨p0, 1, none⟩ = false := by rw [← EB.2.2.2.2.1]; exact L3.out.lay.q0.free 1
  have c3 : w3.cell? ⟨p1, 0, none⟩ = some (.int .i64 0) := by rw [← EB.2.2.2.2.2]; exact L3.out.lay.q1.cell (i := 0) (by simp)
  have f3 : w3.frozen? ⟨p1, 0, none⟩ = false := by rw [← EB.2.2.2.2.2]; exact L3.out.lay.q1.free 0
  clear EB
  have nzb0 : ¬ z = b0 := by have := HLIES.out; have := HGT.out; omega
  have mzb0 : ¬ b0 = z := by have := HLIES.out; have := HGT.out; omega
  have nzsM : ¬ z = sM := by have := HLIES.out; have := HGT.out; omega
  have mzsM : ¬ sM = z := by have := HLIES.out; have := HGT.out; omega
  have nzp0 : ¬ z = p0 := by have := HLIES.out; have := HGT.out; omega
  have mzp0 : ¬ p0 = z := by have := HLIES.out; have := HGT.out; omega
  have nzp1 : ¬ z = p1 := by have := HLIES.out; have := HGT.out; omega
  have mzp1 : ¬ p1 = z := by have := HLIES.out; have := HGT.out; omega
  have nsBb0 : ¬ sB = b0 := by have := HLIES.out; have := HGT.out; omega
  have msBb0 : ¬ b0 = sB := by have := HLIES.out; have := HGT.out; omega
  have nsBsM : ¬ sB = sM := by have := HLIES.out; have := HGT.out; omega
  have msBsM : ¬ sM = sB := by have := HLIES.out; have := HGT.out; omega
  have nsBp0 : ¬ sB = p0 := by have := HLIES.out; have := HGT.out; omega
  have msBp0 : ¬ p0 = sB := by have := HLIES.out; have := HGT.out; omega
  have nsBp1 : ¬ sB = p1 := by have := HLIES.out; have := HGT.out; omega
  have msBp1 : ¬ p1 = sB := by have := HLIES.out; have := HGT.out; omega
  have nsPb0 : ¬ sP = b0 := by have := HLIES.out; have := HGT.out; omega
  have msPb0 : ¬ b0 = sP := by have := HLIES.out; have := HGT.out; omega
  have nsPsM : ¬ sP = sM := by have := HLIES.out; have := HGT.out; omega
  have msPsM : ¬ sM = sP := by have := HLIES.out; have := HGT.out; omega
  have nsPp0 : ¬ sP = p0 := by have := HLIES.out; have := HGT.out; omega
  have msPp0 : ¬ p0 = sP := by have := HLIES.out; have := HGT.out; omega
  have nsPp1 : ¬ sP = p1 := by have := HLIES.out; have := HGT.out; omega
  have msPp1 : ¬ p1 = sP := by have := HLIES.out; have := HGT.out; omega
  have nb0sM : ¬ b0 = sM := by have := HLIES.out; have := HGT.out; omega
  have nb0p0 : ¬ b0 = p0 := by have := HLIES.out; have := HGT.out; omega
  have nb0p1 : ¬ b0 = p1 := by have := HLIES.out; have := HGT.out; omega
  have nsMb0 : ¬ sM = b0 := by have := HLIES.out; have := HGT.out; omega
  have nsMp0 : ¬ sM = p0 := by have := HLIES.out; have := HGT.out; omega
  have nsMp1 : ¬ sM = p1 := by have := HLIES.out; have := HGT.out; omega
  have np0b0 : ¬ p0 = b0 := by have := HLIES.out; have := HGT.out; omega
  have np0sM : ¬ p0 = sM := by have := HLIES.out; have := HGT.out; omega
  have np0p1 : ¬ p0 = p1 := by have := HLIES.out; have := HGT.out; omega
  have np1b0 : ¬ p1 = b0 := by have := HLIES.out; have := HGT.out; omega
  have np1sM : ¬ p1 = sM := by have := HLIES.out; have := HGT.out; omega
  have np1p0 : ¬ p1 = p0 := by have := HLIES.out; have := HGT.out; omega
  have wn : IntKind.i64.wrap (-pos) = -pos := HWF.out.2.2.2
  go_region
  rw [← hw4]
  clear hw4 x1 x2 x3 s0 t0 t1 c0 f0 c1 f1 c2 f2 c3 f3 wn L3 B3
  clear nzb0 nzsM nzp0 nzp1 nsBb0 nsBsM nsBp0 nsBp1 nsPb0 nsPsM nsPp0 nsPp1 nb0sM nb0p0 nb0p1 nsMb0 nsMp0 nsMp1 np0b0 np0sM np0p1 np1b0 np1sM np1p0 mzb0 mzsM mzp0 mzp1 msBb0 msBsM msBp0 msBp1 msPb0 msPsM msPp0 msPp1
  have x0 : w4.cell? ⟨z, 0, none⟩ = some (.slice (some ⟨g, 0, none⟩) 3 vc) := L4.out.cell rfl
  have a0 : w4.cell? ⟨g, 0, none⟩ = some (.int .i64 bal) := L4.out.acct (by omega) rfl
  have a1 : w4.cell? ⟨g, 1, none⟩ = some (.int .i64 cr) := L4.out.acct (by omega) rfl
  have a2 : w4.cell? ⟨g, 2, none⟩ = some (.int .i64 rs) := L4.out.acct (by omega) rfl
  go_wp2_with fail
  go_at_call 22
  refine (RM _).mono ?_
  rintro e w5 ⟨rfl, hb⟩
  have L5 : Hid (Lay4 w5 w.heap.size z g vc [(bal, cr, rs), (0, 0, 0), (0, 0, 0)] [-1, bil, -1] [-1, -1, -1] [-1, -1, -1] [mul, -1, -1] [0, pos, 0] [-pos, 0, 0] [0, 0, 0]) := L4.out.below hb
  have B5 : Hid (Below w.heap.size w w5) := B4.out.trans (hb.mono B4.out.size)
  have N5 : Hid (Bk w5 ⟨some ⟨g, 0, none⟩, 3, vc, some ⟨sB, 0, none⟩, 3, 3, some ⟨sM, 0, none⟩, 3, 3, some ⟨sP, 0, none⟩, 3, 3⟩ (oneK bal cr rs bil mul pos)) := by
    have hw := HWF.out
    have := (L5.out.lay.newBk ⟨rfl, rfl, rfl, rfl, rfl, rfl, rfl⟩ (w64_rows bil hw.1) (w64_three hw.2.1 (by decide) (by decide)) (w64_pos hw.2.2.1 hw.2.2.2)).bk
    obtain ⟨e0, e1, e2, e3, e4, e5⟩ := HLIES.out
    rw [e1, e2, e5]
    exact this
  clear hb RM L4 B4 x0 a0 a1 a2 HWF
  have x0 : w5.cell? ⟨z, 0, none⟩ = some (.slice (some ⟨g, 0, none⟩) 3 vc) := L5.out.cell rfl
  have x1 : w5.cell? ⟨z, 1, none⟩ = some (.slice (some ⟨sB, 0, none⟩) 3 3) := by rw [HLIES.out.2.1]; exact L5.out.cell rfl
  have x2 : w5.cell? ⟨z, 2, none⟩ = some (.slice (some ⟨sM, 0, none⟩) 3 3) := by rw [HLIES.out.2.2.1]; exact L5.out.cell rfl
  have x3 : w5.cell? ⟨z, 3, none⟩ = some (.slice (some ⟨sP, 0, none⟩) 3 3) := by rw [HLIES.out.2.2.2.2.2]; exact L5.out.cell rfl
  have C := fitsFits_any ⟨some ⟨g, 0, none⟩, 3, vc, some ⟨sB, 0, none⟩, 3, 3, some ⟨sM, 0, none⟩, 3, 3, some ⟨sP, 0, none⟩, 3, 3⟩ (oneK bal cr rs bil mul pos) (some ⟨w5.heap.size, 0, none⟩) 1 1 [(1, 0, 1, am, cl, 0, 0)] _ (N5.out.below (box_below w5 _)) GB.out (PGood.lit1 w5 (1, 0, 1, am, cl, 0, 0))
  obtain ⟨F, hF⟩ : ∃ F, fitsB (oneK bal cr rs bil mul pos) [(1, 0, 1, am, cl, 0, 0)] = F := ⟨_, rfl⟩
  rw [hF] at C HF
  generalize roomV bal cr rs cl = room at HF hc ⊢
  have ws : IntKind.i64.wrap (pos + am) = s := HWS.out
  clear hF L5 N5 GB HLIES HGT HWS
  rcases Int.lt_or_le room am with k1 | k1
  · have d1 : decide (am ≤ room) = false := decide_eq_false (by omega)
    have HW : F = false := by rw [HF.out]; simp [d1]
    subst HW
    clear HF
    go_wp2_with fail
    go_at_call 12
    refine C.mono ?_
    rintro e w6 ⟨rfl, hb⟩
    have B6 : Hid (Below w.heap.size w w6) := (B5.out.alloc B5.out.size _).trans (hb.mono (by rw [size_alloc]; have := B5.out.size; omega))
    have KK := K w6
    clear hb C x0 x1 x2 x3
    go_wp2_with fail
    go_at_call 18
    refine KK.mono ?_
    rintro e w7 ⟨rfl, hb⟩
    have B7 : Hid (Below w.heap.size w w7) := B6.out.trans (hb.mono B6.out.size)
    clear hb KK
    go_wp2
    go_ret
    exact ⟨rfl, B7.out⟩
  have d1 : decide (am ≤ room) = true := decide_eq_true k1
  have k2 := hc k1
  have d2 : decide (bil < 0) = true := decide_eq_true k2
  rcases Int.lt_or_le mul 0 with k4 | k4
  · have d4 : decide (mul < 0) = true := decide_eq_true k4
    have HW : F = true := by rw [HF.out]; simp [d1, d2, d4]
    subst HW
    clear HF
    go_wp2_with fail
    go_at_call 12
    refine C.mono ?_
    rintro e w6 ⟨rfl, hb⟩
    have B6 : Hid (Below w.heap.size w w6) := (B5.out.alloc B5.out.size _).trans (hb.mono (by rw [size_alloc]; have := B5.out.size; omega))
    have KK := K w6
    clear hb C x0 x1 x2 x3
    go_wp2_with fail
    go_at_call 18
    refine KK.mono ?_
    rintro e w7 ⟨rfl, hb⟩
    have B7 : Hid (Below w.heap.size w w7) := B6.out.trans (hb.mono B6.out.size)
    clear hb KK
    go_wp2
    go_ret
    exact ⟨rfl, B7.out⟩
  have d4 : decide (mul < 0) = false := decide_eq_false (by omega)
  rcases Int.lt_or_le mul s with k5 | k5
  · have d5 : decide (s ≤ mul) = false := decide_eq_false (by omega)
    have HW : F = false := by rw [HF.out]; simp [d1, d2, d4, d5]
    subst HW
    clear HF
    go_wp2_with fail
    go_at_call 12
    refine C.mono ?_
    rintro e w6 ⟨rfl, hb⟩
    have B6 : Hid (Below w.heap.size w w6) := (B5.out.alloc B5.out.size _).trans (hb.mono (by rw [size_alloc]; have := B5.out.size; omega))
    have KK := K w6
    clear hb C x0 x1 x2 x3
    go_wp2_with fail
    go_at_call 18
    refine KK.mono ?_
    rintro e w7 ⟨rfl, hb⟩
    have B7 : Hid (Below w.heap.size w w7) := B6.out.trans (hb.mono B6.out.size)
    clear hb KK
    go_wp2
    go_ret
    exact ⟨rfl, B7.out⟩
  have d5 : decide (s ≤ mul) = true := decide_eq_true k5
  have HW : F = true := by rw [HF.out]; simp [d1, d2, d4, d5]
  subst HW
  clear HF
  go_wp2_with fail
  go_at_call 12
  refine C.mono ?_
  rintro e w6 ⟨rfl, hb⟩
  have B6 : Hid (Below w.heap.size w w6) := (B5.out.alloc B5.out.size _).trans (hb.mono (by rw [size_alloc]; have := B5.out.size; omega))
  have KK := K w6
  clear hb C x0 x1 x2 x3
  go_wp2_with fail
  go_at_call 18
  refine KK.mono ?_
  rintro e w7 ⟨rfl, hb⟩
  have B7 : Hid (Below w.heap.size w w7) := B6.out.trans (hb.mono B6.out.size)
  clear hb KK
  go_wp2
  go_ret
  exact ⟨rfl, B7.out⟩

end Walk
end Go.Proofs.Ytdikimddkhahdaa
