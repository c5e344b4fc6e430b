/-
  MostBounds, part a.
-/
import Derived.Test.YtcdahjkngejkeaaMostBoundsW
namespace Go.Proofs.Ytcdahjkngejkeaa
open Go.RowKit
set_option linter.unusedVariables false
set_option linter.unusedSimpArgs false
namespace Walk

set_option maxHeartbeats 16000000 in
set_option maxRecDepth 100000 in
theorem mostBounds_a (bal rs bil mul pos cl : Int) (w : World) (hr : (0 ≤ bal ∧ bal ≤ 1000) ∧ (0 ≤ rs ∧ rs ≤ 1000) ∧ ((-1) ≤ bil ∧ bil ≤ 1000) ∧ ((-1) ≤ mul ∧ mul ≤ 1000) ∧ ((-1000) ≤ pos ∧ pos ≤ 1000) ∧ (1 ≤ cl ∧ cl ≤ 3)) (hc : bil < 0 ∧ mul < 0) : Calls Try.prog 5 #[.int .i64 bal, .int .i64 rs, .int .i64 bil, .int .i64 mul, .int .i64 pos, .int .i64 cl] w fun e w' => e = .returned (.bool true) ∧ Below w.heap.size w w' := by
  obtain ⟨hb1, hb2⟩ := hc
  obtain ⟨⟨bal2, bal4⟩, ⟨rs2, rs4⟩, ⟨bil2, bil4⟩, ⟨mul2, mul4⟩, ⟨pos2, pos4⟩, ⟨cl2, cl4⟩⟩ := hr
  have bal1 : decide (bal < 0) = false := decide_eq_false (by omega)
  have bal3 : decide (1000 < bal) = false := decide_eq_false (by omega)
  have rs1 : decide (rs < 0) = false := decide_eq_false (by omega)
  have rs3 : decide (1000 < rs) = false := decide_eq_false (by omega)
  have bil1 : decide (bil < (-1)) = false := decide_eq_false (by omega)
  have bil3 : decide (1000 < bil) = false := decide_eq_false (by omega)
  have mul1 : decide (mul < (-1)) = false := decide_eq_false (by omega)
  have mul3 : decide (1000 < mul) = false := decide_eq_false (by omega)
  have pos1 : decide (pos < (-1000)) = false := decide_eq_false (by omega)
  have pos3 : decide (1000 < pos) = false := decide_eq_false (by omega)
  have cl1 : decide (cl < 1) = false := decide_eq_false (by omega)
  have cl3 : decide (3 < cl) = false := decide_eq_false (by omega)
  have S := some_zero [] 0 none 0 0 w (Sl.nil _ _ _) (by omega) (by decide) (by decide) (by decide)
  have GB : Hid (Good (oneK bal 0 rs bil mul pos)) := good_one ⟨bal2, bal4⟩ ⟨by omega, by omega⟩ ⟨rs2, rs4⟩ ⟨bil2, bil4⟩ ⟨mul2, mul4⟩ ⟨pos2, pos4⟩
  have HV : Hid (max 0 (leaveV (leaveV (roomV bal 0 rs cl) bil pos) mul pos) = mostV (oneK bal 0 rs bil mul pos) 0 1 cl) := most_one ⟨bal2, bal4⟩ ⟨rs2, rs4⟩ ⟨bil2, bil4⟩ ⟨mul2, mul4⟩ ⟨pos2, pos4⟩ ⟨cl2, cl4⟩
  have RM := fun u => refRoom_any bal 0 rs cl (acctB_yes.2 ⟨by omega, by omega, by omega, by omega, by omega, by omega⟩) u
  obtain ⟨r, hr⟩ : ∃ r, roomV bal 0 rs cl = r := ⟨_, rfl⟩
  rw [hr] at HV RM
  obtain ⟨d1, hd1⟩ : ∃ d, bil - pos = d := ⟨_, rfl⟩
  obtain ⟨d2, hd2⟩ : ∃ d, mul - pos = d := ⟨_, rfl⟩
  have HD1 : Hid (bil - pos = d1 ∧ IntKind.i64.wrap (bil - pos) = d1) := by show _ ∧ _; rw [hd1]; exact ⟨rfl, i64_wf (by omega) (by omega)⟩
  have HD2 : Hid (mul - pos = d2 ∧ IntKind.i64.wrap (mul - pos) = d2) := by show _ ∧ _; rw [hd2]; exact ⟨rfl, i64_wf (by omega) (by omega)⟩
  have HWF : Hid (IntKind.i64.wrap bil = bil ∧ IntKind.i64.wrap mul = mul ∧ IntKind.i64.wrap pos = pos ∧ IntKind.i64.wrap (-pos) = -pos) := ⟨i64_wf (by omega) (by omega), i64_wf (by omega) (by omega), i64_wf (by omega) (by omega), i64_wf (by omega) (by omega)⟩
  clear hr hd1 hd2
  obtain ⟨b0, hb0⟩ : ∃ x, w.heap.size + 1 = x := ⟨_, rfl⟩
  obtain ⟨sB, hsB⟩ : ∃ x, w.heap.size + 4 = x := ⟨_, rfl⟩
  obtain ⟨sM, hsM⟩ : ∃ x, w.heap.size + 5 = x := ⟨_, rfl⟩
  obtain ⟨p0, hp0⟩ : ∃ x, w.heap.size + 6 = x := ⟨_, rfl⟩
  obtain ⟨p1, hp1⟩ : ∃ x, w.heap.size + 7 = x := ⟨_, rfl⟩
  obtain ⟨sP, hsP⟩ : ∃ x, w.heap.size + 9 = x := ⟨_, rfl⟩
  have HLIES : Hid (b0 = w.heap.size + 1 ∧ sB = w.heap.size + 4 ∧ sM = w.heap.size + 5 ∧ p0 = w.heap.size + 6 ∧ p1 = w.heap.size + 7 ∧ sP = w.heap.size + 9) := ⟨hb0.symm, hsB.symm, hsM.symm, hp0.symm, hp1.symm, hsP.symm⟩
  have K := known17
  clear hb0 hsB hsM hp0 hp1 hsP
  go_enter Try.func5, Try.ntmps5
  go_wp2_with fail
  go_at_call 11
  refine S.mono ?_
  rintro e w1 ⟨g, vc, he, lay, bel⟩
  have he : e = .returned (.agg #[.slice (some ⟨g, 0, none⟩) 3 vc, .slice (some ⟨sB, 0, none⟩) 3 3, .slice (some ⟨sM, 0, none⟩) 3 3, .slice (some ⟨sP, 0, none⟩) 3 3]) := by rw [he, HLIES.out.2.1, HLIES.out.2.2.1, HLIES.out.2.2.2.2.2]; rfl
  subst he
  have B1 : Hid (Below w.heap.size w w1) := bel
  obtain ⟨w2, hw2⟩ : ∃ w2, w2 = w1.alloc (.cells #[.slice (some ⟨g, 0, none⟩) 3 vc, .slice (some ⟨sB, 0, none⟩) 3 3, .slice (some ⟨sM, 0, none⟩) 3 3, .slice (some ⟨sP, 0, none⟩) 3 3] 26) := ⟨_, rfl⟩
  obtain ⟨z, hz⟩ : ∃ z, w1.heap.size = z := ⟨_, rfl⟩
  have HGT : Hid (w.heap.size + 10 < g ∧ g < z) := ⟨lay.gt, by rw [← hz]; exact lay.lt⟩
  have L2 : Hid (Lay4 w2 w.heap.size z g vc [(0, 0, 0), (0, 0, 0), (0, 0, 0)] [-1, -1, -1] [-1, -1, -1] [-1, -1, -1] [-1, -1, -1] [0, 0, 0] [0, 0, 0] [0, 0, 0]) := by
    refine ⟨by rw [hw2]; exact lay.below (box_below _ _), HGT.out.2, ?_⟩
    rw [hw2, ← hz, HLIES.out.2.1, HLIES.out.2.2.1, HLIES.out.2.2.2.2.2]
    exact heap_alloc_new w1 _
  have B2 : Hid (Below w.heap.size w w2) := by rw [hw2]; exact B1.out.alloc B1.out.size _
  clear S lay bel B1 bal1 bal2 bal3 bal4 rs1 rs2 rs3 rs4 bil1 bil2 bil3 bil4 mul1 mul2 mul3 mul4 pos1 pos2 pos3 pos4 cl1 cl2 cl3 cl4
  go_upto_region 4 with fail
  rw [← hw2]
  try simp only [hz]
  clear hw2 hz
  have x0 : w2.cell? ⟨z, 0, none⟩ = some (.slice (some ⟨g, 0, none⟩) 3 vc) := L2.out.cell rfl
  have a0 : w2.cell? ⟨g, 0, none⟩ = some (.int .i64 0) := L2.out.acct (by omega) rfl
  have a2 : w2.cell? ⟨g, 2, none⟩ = some (.int .i64 0) := L2.out.acct (by omega) rfl
  have f0 := L2.out.free 0
  have f2 := L2.out.free 2
  have nzg : ¬ z = g := by have := HGT.out; omega
  have ngz : ¬ g = z := by have := HGT.out; omega
  obtain ⟨w3, hw3⟩ : ∃ w3, w3 = ((w2.setCell ⟨g, 0, none⟩ (.int .i64 bal)).setCell ⟨g, 2, none⟩ (.int .i64 rs)).drew := ⟨_, rfl⟩
  have L3 : Hid (Lay4 w3 w.heap.size z g vc [(bal, 0, rs), (0, 0, 0), (0, 0, 0)] [-1, -1, -1] [-1, -1, -1] [-1, -1, -1] [-1, -1, -1] [0, 0, 0] [0, 0, 0] [0, 0, 0]) := by
    rw [hw3]
    exact ((L2.out.setA 0 (.int .i64 bal) [(bal, 0, 0), (0, 0, 0), (0, 0, 0)] rfl rfl (by omega)).setA 2 (.int .i64 rs) _ rfl rfl (by omega)).drew
  have B3 : Hid (Below w.heap.size w w3) := by
    have := HGT.out
    rw [hw3]
    exact ((B2.out.setCell (p := ⟨g, 0, none⟩) (by show w.heap.size ≤ g; omega) _).setCell (p := ⟨g, 2, none⟩) (by show w.heap.size ≤ g; omega) _).drew
  go_region
  rw [← hw3]
  clear hw3 x0 a0 a2 f0 f2 nzg ngz L2 B2
  obtain ⟨w4, hw4⟩ : ∃ w4, w4 = ((((w3.setCell ⟨b0, 1, none⟩ (.int .i64 bil)).setCell ⟨sM, 0, none⟩ (.int .i64 mul)).setCell ⟨p0, 1, none⟩ (.int .i64 pos)).setCell ⟨p1, 0, none⟩ (.int .i64 (-pos))).drew := ⟨_, rfl⟩
  have L4 : Hid (Lay4 w4 w.heap.size z g vc [(bal, 0, rs), (0, 0, 0), (0, 0, 0)] [-1, bil, -1] [-1, -1, -1] [-1, -1, -1] [mul, -1, -1] [0, pos, 0] [-pos, 0, 0] [0, 0, 0]) := by
    rw [hw4]
    obtain ⟨e0, e1, e2, e3, e4, e5⟩ := HLIES.out
    rw [e0, e2, e3, e4]
    exact ((((L3.out.setB0 1 bil).setM 0 mul).setP0 1 pos).setP1 0 (-pos)).drew
  have B4 : Hid (Below w.heap.size w w4) := by
    have := HLIES.out
    rw [hw4]
    exact ((((B3.out.setCell (p := ⟨b0, 1, none⟩) (by show w.heap.size ≤ b0; omega) _).setCell (p := ⟨sM, 0, none⟩) (by show w.heap.size ≤ sM; omega) _).setCell (p := ⟨p0, 1, none⟩) (by show w.heap.size ≤ p0; omega) _).setCell (p := ⟨p1, 0, none⟩) (by show w.heap.size ≤ p1; omega) _).drew
  have EB : w.heap.size + 4 = sB ∧ w.heap.size + 5 = sM ∧ w.heap.size + 9 = sP ∧ w.heap.size + 1 = b0 ∧ w.heap.size + 6 = p0 ∧ w.heap.size + 7 = p1 := by have := HLIES.out; omega
  have x1 : w3.cell? ⟨z, 1, none⟩ = some (.slice (some ⟨sB, 0, none⟩) 3 3) := by rw [← EB.1]; exact L3.out.cell rfl
  have x2 : w3.cell? ⟨z, 2, none⟩ = some (.slice (some ⟨sM, 0, none⟩) 3 3) := by rw [← EB.2.1]; exact L3.out.cell rfl
  have x3 : w3.cell? ⟨z, 3, none⟩ = some (.slice (some ⟨sP, 0, none⟩) 3 3) := by rw [← EB.2.2.1]; exact L3.out.cell rfl
  have s0 : w3.cell? ⟨sB, 0, none⟩ = some (.slice (some ⟨b0, 0, none⟩) 3 3) := by rw [← EB.1, ← EB.2.2.2.1]; rw [cell_of_row w3 _ 0 _ _ _ L3.out.lay.spB]; rfl
  have t0 : w3.cell? ⟨sP, 0, none⟩ = some (.slice (some ⟨p0, 0, none⟩) 3 3) := by rw [← EB.2.2.1, ← EB.2.2.2.2.1]; rw [cell_of_row w3 _ 0 _ _ _ L3.out.lay.spP]; rfl
  have t1 : w3.cell? ⟨sP, 1, none⟩ = some (.slice (some ⟨p1, 0, none⟩) 3 3) := by rw [← EB.2.2.1, ← EB.2.2.2.2.2]; rw [cell_of_row w3 _ 1 _ _ _ L3.out.lay.spP]; rfl
  have c0 : w3.cell? ⟨b0, 1, none⟩ = some (.int .i64 (-1)) := by rw [← EB.2.2.2.1]; exact L3.out.lay.r0.cell (i := 1) (by simp)
  have f0 : w3.frozen? ⟨b0, 1, none⟩ = false := by rw [← EB.2.2.2.1]; exact L3.out.lay.r0.free 1
  have c1 : w3.cell? ⟨sM, 0, none⟩ = some (.int .i64 (-1)) := by rw [← EB.2.1]; exact L3.out.lay.mul.cell (i := 0) (by simp)
  have f1 : w3.frozen? ⟨sM, 0, none⟩ = false := by rw [← EB.2.1]; exact L3.out.lay.mul.free 0
  have c2 : w3.cell? ⟨p0, 1, none⟩ = some (.int .i64 0) := by rw [← EB.2.2.2.2.1]; exact L3.out.lay.q0.cell (i := 1) (by simp)
  have f2 : w3.frozen? ⟨p0, 1, none⟩ = false := by rw [← EB.2.2.2.2.1]; exact L3.out.lay.q0.free 1
  have c3 : w3.cell? ⟨p1, 0, none⟩ = some (.int .i64 0) := by rw [← EB.2.2.2.2.2]; exact L3.out.lay.q1.cell (i := 0) (by simp)
  have f3 : w3.frozen? ⟨p1, 0, none⟩ = false := by rw [← EB.2.2.2.2.2]; exact L3.out.lay.q1.free 0
  clear EB
  have nzb0 : ¬ z = b0 := by have := HLIES.out; have := HGT.out; omega
  have nb0z : ¬ b0 = z := by have := HLIES.out; have := HGT.out; omega
  have nzsM : ¬ z = sM := by have := HLIES.out; have := HGT.out; omega
  have nsMz : ¬ sM = z := by have := HLIES.out; have := HGT.out; omega
  have nzp0 : ¬ z = p0 := by have := HLIES.out; have := HGT.out; omega
  have np0z : ¬ p0 = z := by have := HLIES.out; have := HGT.out; omega
  have nzp1 : ¬ z = p1 := by have := HLIES.out; have := HGT.out; omega
  have np1z : ¬ p1 = z := by have := HLIES.out; have := HGT.out; omega
  have nsBb0 : ¬ sB = b0 := by have := HLIES.out; have := HGT.out; omega
  have nb0sB : ¬ b0 = sB := by have := HLIES.out; have := HGT.out; omega
  have nsBsM : ¬ sB = sM := by have := HLIES.out; have := HGT.out; omega
  have nsMsB : ¬ sM = sB := by have := HLIES.out; have := HGT.out; omega
  have nsBp0 : ¬ sB = p0 := by have := HLIES.out; have := HGT.out; omega
  have np0sB : ¬ p0 = sB := by have := HLIES.out; have := HGT.out; omega
  have nsBp1 : ¬ sB = p1 := by have := HLIES.out; have := HGT.out; omega
  have np1sB : ¬ p1 = sB := by have := HLIES.out; have := HGT.out; omega
  have nsPb0 : ¬ sP = b0 := by have := HLIES.out; have := HGT.out; omega
  have nb0sP : ¬ b0 = sP := by have := HLIES.out; have := HGT.out; omega
  have nsPsM : ¬ sP = sM := by have := HLIES.out; have := HGT.out; omega
  have nsMsP : ¬ sM = sP := by have := HLIES.out; have := HGT.out; omega
  have nsPp0 : ¬ sP = p0 := by have := HLIES.out; have := HGT.out; omega
  have np0sP : ¬ p0 = sP := by have := HLIES.out; have := HGT.out; omega
  have nsPp1 : ¬ sP = p1 := by have := HLIES.out; have := HGT.out; omega
  have np1sP : ¬ p1 = sP := by have := HLIES.out; have := HGT.out; omega
  have nb0sM : ¬ b0 = sM := by have := HLIES.out; have := HGT.out; omega
  have nb0p0 : ¬ b0 = p0 := by have := HLIES.out; have := HGT.out; omega
  have nb0p1 : ¬ b0 = p1 := by have := HLIES.out; have := HGT.out; omega
  have nsMb0 : ¬ sM = b0 := by have := HLIES.out; have := HGT.out; omega
  have nsMp0 : ¬ sM = p0 := by have := HLIES.out; have := HGT.out; omega
  have nsMp1 : ¬ sM = p1 := by have := HLIES.out; have := HGT.out; omega
  have np0b0 : ¬ p0 = b0 := by have := HLIES.out; have := HGT.out; omega
  have np0sM : ¬ p0 = sM := by have := HLIES.out; have := HGT.out; omega
  have np0p1 : ¬ p0 = p1 := by have := HLIES.out; have := HGT.out; omega
  have np1b0 : ¬ p1 = b0 := by have := HLIES.out; have := HGT.out; omega
  have np1sM : ¬ p1 = sM := by have := HLIES.out; have := HGT.out; omega
  have np1p0 : ¬ p1 = p0 := by have := HLIES.out; have := HGT.out; omega
  have wn : IntKind.i64.wrap (-pos) = -pos := HWF.out.2.2.2
  go_upto_region 5 with fail
  go_region
  rw [← hw4]
  clear hw4 x1 x2 x3 s0 t0 t1 c0 f0 c1 f1 c2 f2 c3 f3 wn L3 B3
  clear nzb0 nb0z nzsM nsMz nzp0 np0z nzp1 np1z nsBb0 nb0sB nsBsM nsMsB nsBp0 np0sB nsBp1 np1sB nsPb0 nb0sP nsPsM nsMsP nsPp0 np0sP nsPp1 np1sP nb0sM nb0p0 nb0p1 nsMb0 nsMp0 nsMp1 np0b0 np0sM np0p1 np1b0 np1sM np1p0
  have x0 : w4.cell? ⟨z, 0, none⟩ = some (.slice (some ⟨g, 0, none⟩) 3 vc) := L4.out.cell rfl
  have a0 : w4.cell? ⟨g, 0, none⟩ = some (.int .i64 bal) := L4.out.acct (by omega) rfl
  have a1 : w4.cell? ⟨g, 1, none⟩ = some (.int .i64 0) := L4.out.acct (by omega) rfl
  have a2 : w4.cell? ⟨g, 2, none⟩ = some (.int .i64 rs) := L4.out.acct (by omega) rfl
  go_wp2_with fail
  go_at_call 12
  refine (RM _).mono ?_
  rintro e w5 ⟨rfl, hb⟩
  have L5 : Hid (Lay4 w5 w.heap.size z g vc [(bal, 0, rs), (0, 0, 0), (0, 0, 0)] [-1, bil, -1] [-1, -1, -1] [-1, -1, -1] [mul, -1, -1] [0, pos, 0] [-pos, 0, 0] [0, 0, 0]) := L4.out.below hb
  have B5 : Hid (Below w.heap.size w w5) := B4.out.trans (hb.mono B4.out.size)
  have N5 : Hid (Bk w5 ⟨some ⟨g, 0, none⟩, 3, vc, some ⟨sB, 0, none⟩, 3, 3, some ⟨sM, 0, none⟩, 3, 3, some ⟨sP, 0, none⟩, 3, 3⟩ (oneK bal 0 rs bil mul pos)) := by
    have hw := HWF.out
    have := (L5.out.lay.newBk ⟨rfl, rfl, rfl, rfl, rfl, rfl, rfl⟩ (w64_rows bil hw.1) (w64_three hw.2.1 (by decide) (by decide)) (w64_pos hw.2.2.1 hw.2.2.2)).bk
    obtain ⟨e0, e1, e2, e3, e4, e5⟩ := HLIES.out
    rw [e1, e2, e5]
    exact this
  clear hb RM L4 B4 x0 a0 a1 a2 HWF
  have x0 : w5.cell? ⟨z, 0, none⟩ = some (.slice (some ⟨g, 0, none⟩) 3 vc) := L5.out.cell rfl
  have x1 : w5.cell? ⟨z, 1, none⟩ = some (.slice (some ⟨sB, 0, none⟩) 3 3) := by rw [HLIES.out.2.1]; exact L5.out.cell rfl
  have x2 : w5.cell? ⟨z, 2, none⟩ = some (.slice (some ⟨sM, 0, none⟩) 3 3) := by rw [HLIES.out.2.2.1]; exact L5.out.cell rfl
  have x3 : w5.cell? ⟨z, 3, none⟩ = some (.slice (some ⟨sP, 0, none⟩) 3 3) := by rw [HLIES.out.2.2.2.2.2]; exact L5.out.cell rfl
  have C := most_any ⟨some ⟨g, 0, none⟩, 3, vc, some ⟨sB, 0, none⟩, 3, 3, some ⟨sM, 0, none⟩, 3, 3, some ⟨sP, 0, none⟩, 3, 3⟩ (oneK bal 0 rs bil mul pos) 0 1 cl w5 N5.out GB.out
  generalize mostV (oneK bal 0 rs bil mul pos) 0 1 cl = V at C HV
  clear L5 N5 GB HLIES HGT
  have g1 : decide (0 ≤ bil) = false := decide_eq_false (by omega)
  have U1 : Hid (leaveV r bil pos = r) := by show _ = r; unfold leaveV; rw [if_neg (by omega)]
  have g2 : decide (0 ≤ mul) = false := decide_eq_false (by omega)
  have E : max 0 r = V := by
    have h := HV.out
    rw [U1.out] at h
    unfold leaveV at h
    rw [if_neg (by omega)] at h
    exact h
  clear hb1 hb2 HV U1 HD1 HD2
  go_wp2_with fail
  go_at_call 7
  refine C.mono ?_
  rintro e w6 ⟨rfl, hb⟩
  have B6 : Hid (Below w.heap.size w w6) := B5.out.trans (hb.mono B5.out.size)
  have KK := K w6
  clear hb C x0 x1 x2 x3
  go_wp2_with fail
  go_at_call 9
  refine KK.mono ?_
  rintro e w7 ⟨rfl, hb⟩
  have B7 : Hid (Below w.heap.size w w7) := B6.out.trans (hb.mono B6.out.size)
  clear hb KK
  go_wp2
  go_ret
  exact ⟨rfl, B7.out⟩

end Walk
end Go.Proofs.Ytcdahjkngejkeaa
