/-
  The walk of PostOver.
-/
import Derived.Test.YthpcpbjgihhjeaaKnown16
import Derived.Test.YthpcpbjgihhjeaaPostOverPure
import Derived.Test.YthpcpbjgihhjeaaFitsOneW
namespace Go.Proofs.Ythpcpbjgihhjeaa
open Go.RowKit
set_option linter.unusedVariables false
set_option linter.unusedSimpArgs false

theorem over_post {bal pos am : Int} {v : Bool} (h : wellB bal pos am = v) (b0 : 0 ≤ bal) (p0 : 0 ≤ pos) (a0 : 1 ≤ am) (a1 : am ≤ 1099511627776) : postE (overK bal pos) [(1, 0, 1, am, 3, 0, 0)] = (if v then 0 else 8) ∧ (v = false → postR (overK bal pos) [(1, 0, 1, am, 3, 0, 0)] = overK bal pos) := by
  have h1 := over_all (bal := bal) (pos := pos) a0 a1
  have h2 := over_well (am := am) b0 p0 a0 a1
  rw [h] at h2
  refine ⟨?_, fun hv => ?_⟩
  · unfold postE; rw [if_pos h1, h2]
  · subst hv
    unfold postR; rw [h1, h2]; rfl

set_option maxHeartbeats 16000000 in
set_option maxRecDepth 100000 in
theorem Walk.postOver (bal pos am : Int) (w : World) (hb : (Lit.int .i64 bal).wf = true) (hp : (Lit.int .i64 pos).wf = true) (ha : (Lit.int .i64 am).wf = true) :
    Calls Try.prog 7 #[.int .i64 bal, .int .i64 pos, .int .i64 am] w fun e w' => e = .returned (.bool true) ∧ Below w.heap.size w w' := by
  rcases Int.lt_or_le bal 0 with g0 | g0
  · clear hb hp ha
    go_enter Try.func7, Try.ntmps7
    go_wp2
    go_ret
    exact ⟨rfl, Below.refl _ _⟩
  rcases Int.lt_or_le bal 4611686018427387904 with g1 | g1
  case inr =>
    clear hb hp ha
    go_enter Try.func7, Try.ntmps7
    go_wp2
    go_ret
    exact ⟨rfl, Below.refl _ _⟩
  rcases Int.lt_or_le pos 0 with g2 | g2
  · clear hb hp ha
    go_enter Try.func7, Try.ntmps7
    go_wp2
    go_ret
    exact ⟨rfl, Below.refl _ _⟩
  rcases Int.lt_or_le pos 72057594037927936 with g3 | g3
  case inr =>
    clear hb hp ha
    go_enter Try.func7, Try.ntmps7
    go_wp2
    go_ret
    exact ⟨rfl, Below.refl _ _⟩
  rcases Int.lt_or_le am 1 with g4 | g4
  · clear hb hp ha
    go_enter Try.func7, Try.ntmps7
    go_wp2
    go_ret
    exact ⟨rfl, Below.refl _ _⟩
  rcases Int.lt_or_le 1099511627776 am with g5 | g5
  · clear hb hp ha
    go_enter Try.func7, Try.ntmps7
    go_wp2
    go_ret
    exact ⟨rfl, Below.refl _ _⟩
  have S := some_zero [] 0 none 0 0 w (Sl.nil _ _ _) (by omega) (by decide) (by decide) (by decide)
  obtain ⟨H, hH⟩ : ∃ H, w.heap.size = H := ⟨_, rfl⟩
  have HH : Hid (H = w.heap.size) := hH.symm
  unfold SomeEnd3 at S
  rw [hH] at S
  clear hH hb hp ha
  obtain ⟨sB, hsB⟩ : ∃ x, H + 4 = x := ⟨_, rfl⟩
  obtain ⟨sM, hsM⟩ : ∃ x, H + 5 = x := ⟨_, rfl⟩
  obtain ⟨q0, hq0⟩ : ∃ x, H + 6 = x := ⟨_, rfl⟩
  obtain ⟨q1, hq1⟩ : ∃ x, H + 7 = x := ⟨_, rfl⟩
  obtain ⟨sP, hsP⟩ : ∃ x, H + 9 = x := ⟨_, rfl⟩
  have HLIES : Hid (sB = H + 4 ∧ sM = H + 5 ∧ q0 = H + 6 ∧ q1 = H + 7 ∧ sP = H + 9) := ⟨hsB.symm, hsM.symm, hq0.symm, hq1.symm, hsP.symm⟩
  have HWN : Hid (IntKind.i64.wrap (-pos) = -pos) := by show _ = _; exact i64_wf (by omega) (by omega)
  have n1 : -9223372036854775808 ≤ -pos := by omega
  have n2 : -pos ≤ 9223372036854775807 := by omega
  have GB : Hid (Good (overK bal pos)) := over_good g0 g1 g2 g3
  obtain ⟨E, hE⟩ : ∃ E, postE (overK bal pos) [(1, 0, 1, am, 3, 0, 0)] = E := ⟨_, rfl⟩
  have HE : Hid (postE (overK bal pos) [(1, 0, 1, am, 3, 0, 0)] = E) := hE
  have OP : Hid (∀ v, wellB bal pos am = v → E = (if v then 0 else 8) ∧ (v = false → postR (overK bal pos) [(1, 0, 1, am, 3, 0, 0)] = overK bal pos)) := fun v hv => by rw [← hE]; exact over_post hv g0 g2 g4 g5
  have HRG : Hid ((0 ≤ bal ∧ bal < 4611686018427387904) ∧ (0 ≤ pos ∧ pos < 72057594037927936) ∧ 1 ≤ am ∧ am ≤ 1099511627776) := ⟨⟨g0, g1⟩, ⟨g2, g3⟩, g4, g5⟩
  clear hsB hsM hq0 hq1 hsP hE
  go_enter Try.func7, Try.ntmps7
  go_wp2_with fail
  go_at_call 16
  refine S.mono ?_
  rintro e w1 ⟨g, vc, he, lay, bel⟩
  have he : e = .returned (.agg #[.slice (some ⟨g, 0, none⟩) 3 vc, .slice (some ⟨sB, 0, none⟩) 3 3, .slice (some ⟨sM, 0, none⟩) 3 3, .slice (some ⟨sP, 0, none⟩) 3 3]) := by rw [he, HLIES.out.1, HLIES.out.2.1, HLIES.out.2.2.2.2]; rfl
  subst he
  obtain ⟨w2, hw2⟩ : ∃ w2, w2 = w1.alloc (.cells #[.slice (some ⟨g, 0, none⟩) 3 vc, .slice (some ⟨sB, 0, none⟩) 3 3, .slice (some ⟨sM, 0, none⟩) 3 3, .slice (some ⟨sP, 0, none⟩) 3 3] 26) := ⟨_, rfl⟩
  obtain ⟨z, hz⟩ : ∃ z, w1.heap.size = z := ⟨_, rfl⟩
  have HGT : Hid (H + 10 < g ∧ g < z) := ⟨lay.gt, by rw [← hz]; exact lay.lt⟩
  have L2 : Hid (Lay4 w2 H z g vc [(0, 0, 0), (0, 0, 0), (0, 0, 0)] [-1, -1, -1] [-1, -1, -1] [-1, -1, -1] [-1, -1, -1] [0, 0, 0] [0, 0, 0] [0, 0, 0]) := by
    refine ⟨by rw [hw2]; exact lay.below (box_below _ _), HGT.out.2, ?_⟩
    rw [hw2, ← hz, HLIES.out.1, HLIES.out.2.1, HLIES.out.2.2.2.2]
    exact heap_alloc_new w1 _
  have B2 : Hid (Below w.heap.size w w2) := by rw [hw2]; exact (bel.mono (by rw [HH.out]; exact Nat.le_refl _)).alloc (by have := bel.size; exact this) _
  clear S lay bel
  go_upto_region 4 with fail
  rw [← hw2]
  try simp only [hz]
  clear hw2 hz
  have x0 : w2.cell? ⟨z, 0, none⟩ = some (.slice (some ⟨g, 0, none⟩) 3 vc) := L2.out.cell rfl
  have c0 : w2.cell? ⟨g, 3, none⟩ = some (.int .i64 0) := L2.out.acct (by omega) rfl
  have f0 := L2.out.free 3
  obtain ⟨w3, hw3⟩ : ∃ x, x = (w2.setCell ⟨g, 3, none⟩ (.int .i64 bal)) := ⟨_, rfl⟩
  have L3 : Hid (Lay4 w3 H z g vc [(0, 0, 0), (bal, 0, 0), (0, 0, 0)] [-1, -1, -1] [-1, -1, -1] [-1, -1, -1] [-1, -1, -1] [0, 0, 0] [0, 0, 0] [0, 0, 0]) := by rw [hw3]; exact L2.out.setA 3 (.int .i64 bal) [(0, 0, 0), (bal, 0, 0), (0, 0, 0)] rfl rfl (by omega)
  have B3 : Hid (Below w.heap.size w w3) := by rw [hw3]; exact B2.out.setCell (p := ⟨g, 3, none⟩) (by have := HGT.out; have := HH.out; show w.heap.size ≤ g; omega) _
  go_upto_region 5 with fail
  rw [← hw3]
  clear hw3 x0 c0 f0 L2 B2
  have x3 : w3.cell? ⟨z, 3, none⟩ = some (.slice (some ⟨sP, 0, none⟩) 3 3) := by rw [HLIES.out.2.2.2.2]; exact L3.out.cell rfl
  have s0 : w3.cell? ⟨sP, 0, none⟩ = some (.slice (some ⟨q0, 0, none⟩) 3 3) := by rw [HLIES.out.2.2.2.2, HLIES.out.2.2.1, cell_of_row w3 _ 0 _ _ _ L3.out.lay.spP]; rfl
  have s1 : w3.cell? ⟨sP, 1, none⟩ = some (.slice (some ⟨q1, 0, none⟩) 3 3) := by rw [HLIES.out.2.2.2.2, HLIES.out.2.2.2.1, cell_of_row w3 _ 1 _ _ _ L3.out.lay.spP]; rfl
  have c0 : w3.cell? ⟨q0, 1, none⟩ = some (.int .i64 0) := by rw [HLIES.out.2.2.1, cell_of_row w3 _ 1 _ _ _ L3.out.lay.q0]; rfl
  have f0 : w3.frozen? ⟨q0, 1, none⟩ = false := by rw [HLIES.out.2.2.1]; exact frozen_of_row w3 _ 1 _ _ L3.out.lay.q0
  have c1 : w3.cell? ⟨q1, 0, none⟩ = some (.int .i64 0) := by rw [HLIES.out.2.2.2.1, cell_of_row w3 _ 0 _ _ _ L3.out.lay.q1]; rfl
  have f1 : w3.frozen? ⟨q1, 0, none⟩ = false := by rw [HLIES.out.2.2.2.1]; exact frozen_of_row w3 _ 0 _ _ L3.out.lay.q1
  go_region
  have L4 : Hid (Lay4 ((w3.setCell ⟨q0, 1, none⟩ (.int .i64 pos)).setCell ⟨q1, 0, none⟩ (.int .i64 (-pos))).drew H z g vc [(0, 0, 0), (bal, 0, 0), (0, 0, 0)] [-1, -1, -1] [-1, -1, -1] [-1, -1, -1] [-1, -1, -1] [0, pos, 0] [-pos, 0, 0] [0, 0, 0]) := by
    rw [HLIES.out.2.2.1, HLIES.out.2.2.2.1]
    exact ((L3.out.setP0 1 pos).setP1 0 (-pos)).drew
  have B4 : Hid (Below w.heap.size w ((w3.setCell ⟨q0, 1, none⟩ (.int .i64 pos)).setCell ⟨q1, 0, none⟩ (.int .i64 (-pos))).drew) :=
    ((B3.out.setCell (p := ⟨q0, 1, none⟩) (by have := HLIES.out; have := HH.out; show w.heap.size ≤ q0; omega) _).setCell (p := ⟨q1, 0, none⟩) (by have := HLIES.out; have := HH.out; show w.heap.size ≤ q1; omega) _).drew
  generalize ((w3.setCell ⟨q0, 1, none⟩ (.int .i64 pos)).setCell ⟨q1, 0, none⟩ (.int .i64 (-pos))).drew = w4 at L4 B4 ⊢
  have N4 : Hid (Bk w4 ⟨some ⟨g, 0, none⟩, 3, vc, some ⟨sB, 0, none⟩, 3, 3, some ⟨sM, 0, none⟩, 3, 3, some ⟨sP, 0, none⟩, 3, 3⟩ (overK bal pos)) := by
    have := L4.out.bk ⟨rfl, rfl, rfl, rfl, rfl, rfl, rfl⟩ (by show ∀ z ∈ _, ∀ n ∈ z, IntKind.i64.wrap n = n; decide) (by show ∀ n ∈ _, IntKind.i64.wrap n = n; decide) (w64_pos (i64_wf (by have := HRG.out; omega) (by have := HRG.out; omega)) HWN.out)
    rw [HLIES.out.1, HLIES.out.2.1, HLIES.out.2.2.2.2]
    exact this
  have X4 : Hid (Box4 w4 z ⟨some ⟨g, 0, none⟩, 3, vc, some ⟨sB, 0, none⟩, 3, 3, some ⟨sM, 0, none⟩, 3, 3, some ⟨sP, 0, none⟩, 3, 3⟩) := by
    refine ⟨L4.out.cell rfl, ?_, ?_, ?_⟩
    · show _ = some (Value.slice (some ⟨sB, 0, none⟩) 3 3)
      rw [HLIES.out.1]; exact L4.out.cell rfl
    · show _ = some (Value.slice (some ⟨sM, 0, none⟩) 3 3)
      rw [HLIES.out.2.1]; exact L4.out.cell rfl
    · show _ = some (Value.slice (some ⟨sP, 0, none⟩) 3 3)
      rw [HLIES.out.2.2.2.2]; exact L4.out.cell rfl
  clear L3 L4 B3 HGT HLIES HH HWN x3 s0 s1 c0 f0 c1 f1 n1 n2
  obtain ⟨w5, hw5⟩ : ∃ w5, w5 = w4.alloc (.cells #[.int .i64 1, .int .i64 0, .int .i64 1, .int .i64 am, .int .i64 3, .int .i64 0, .int .i64 0] 46) := ⟨_, rfl⟩
  have b45 : Below w4.heap.size w4 w5 := by rw [hw5]; exact box_below _ _
  have N5 : Hid (Bk w5 ⟨some ⟨g, 0, none⟩, 3, vc, some ⟨sB, 0, none⟩, 3, 3, some ⟨sM, 0, none⟩, 3, 3, some ⟨sP, 0, none⟩, 3, 3⟩ (overK bal pos)) := N4.out.below b45
  have X5 : Hid (Box4 w5 z ⟨some ⟨g, 0, none⟩, 3, vc, some ⟨sB, 0, none⟩, 3, 3, some ⟨sM, 0, none⟩, 3, 3, some ⟨sP, 0, none⟩, 3, 3⟩) := X4.out.below b45
  have B5 : Hid (Below w.heap.size w w5) := B4.out.trans (b45.mono B4.out.size)
  have Y5 : Hid (At7 w5 w4.heap.size 0 (1, 0, 1, am, 3, 0, 0)) := by rw [hw5]; exact At7.new _ (1, 0, 1, am, 3, 0, 0) _ _
  clear b45 N4 X4 B4
  go_upto_region 7 with fail
  rw [← hw5]
  clear hw5
  obtain ⟨p0, p1, p2, p3⟩ := X5.out
  replace p0 : w5.cell? ⟨z, 0, none⟩ = some (.slice (some ⟨g, 0, none⟩) 3 vc) := p0
  replace p1 : w5.cell? ⟨z, 1, none⟩ = some (.slice (some ⟨sB, 0, none⟩) 3 3) := p1
  replace p2 : w5.cell? ⟨z, 2, none⟩ = some (.slice (some ⟨sM, 0, none⟩) 3 3) := p2
  replace p3 : w5.cell? ⟨z, 3, none⟩ = some (.slice (some ⟨sP, 0, none⟩) 3 3) := p3
  obtain ⟨z0, z1, z2, z3, z4, z5, z6⟩ := Y5.out
  simp only [P7.id, P7.fr, P7.to, P7.am, P7.cl, P7.st, P7.ti, Nat.zero_add] at z0 z1 z2 z3 z4 z5 z6
  have P := post_any ⟨some ⟨g, 0, none⟩, 3, vc, some ⟨sB, 0, none⟩, 3, 3, some ⟨sM, 0, none⟩, 3, 3, some ⟨sP, 0, none⟩, 3, 3⟩ (overK bal pos) (some ⟨w5.heap.size, 0, none⟩) 1 1 [(1, 0, 1, am, 3, 0, 0)] _ (N5.out.below (box_below w5 _)) GB.out (PGood.lit1 w5 (1, 0, 1, am, 3, 0, 0))
  unfold PostEnd at P
  rw [HE.out] at P
  go_wp2_with fail
  go_at_call 11
  refine P.mono ?_
  rintro e w6 ⟨y, rfl, nb, hb⟩
  have B56 : Hid (Below w5.heap.size w5 w6) := (box_below _ _).trans (hb.mono (by rw [size_alloc]; omega))
  have N6 : Hid (Bk w6 y (postR (overK bal pos) [(1, 0, 1, am, 3, 0, 0)])) := nb.bk
  clear P nb hb p0 p1 p2 p3 z0 z1 z2 z3 z4 z5 z6 Y5
  obtain ⟨yA, mA, eA, yB, mB, eB, yM, mM, eM, yP, mP, eP⟩ := y
  obtain ⟨w7, hw7⟩ : ∃ w7, w7 = w6.alloc (.cells #[.slice yA mA eA, .slice yB mB eB, .slice yM mM eM, .slice yP mP eP] 26) := ⟨_, rfl⟩
  have b7 : Below w6.heap.size w6 w7 := by rw [hw7]; exact box_below _ _
  have X7 : Hid (Box4 w7 w6.heap.size ⟨yA, mA, eA, yB, mB, eB, yM, mM, eM, yP, mP, eP⟩) := by rw [hw7]; exact Box4.new w6 ⟨yA, mA, eA, yB, mB, eB, yM, mM, eM, yP, mP, eP⟩ _ _
  have N7 : Hid (Bk w7 ⟨yA, mA, eA, yB, mB, eB, yM, mM, eM, yP, mP, eP⟩ (postR (overK bal pos) [(1, 0, 1, am, 3, 0, 0)])) := N6.out.below b7
  have B57 : Hid (Below w5.heap.size w5 w7) := B56.out.trans (b7.mono B56.out.size)
  have B7 : Hid (Below w.heap.size w w7) := B5.out.trans (B57.out.mono B5.out.size)
  clear b7 N6 B56
  go_upto_region 8 with fail
  rw [← hw7]
  clear hw7
  have a1 : (4611686018427387904 : Int) - am ≤ 9223372036854775807 := by have := HRG.out; omega
  have a2 : -9223372036854775808 ≤ (4611686018427387904 : Int) - am := by have := HRG.out; omega
  have a3 : (72057594037927936 : Int) - am ≤ 9223372036854775807 := by have := HRG.out; omega
  have a4 : -9223372036854775808 ≤ (72057594037927936 : Int) - am := by have := HRG.out; omega
  go_cut [11] from 64 to 73 (fun s wc => s = .bool (wellB bal pos am) ∧ wc = w7)
  case first =>
    rcases Int.lt_or_le bal (4611686018427387904 - am) with t1 | t1
    · rcases Int.lt_or_le pos (72057594037927936 - am) with t2 | t2
      · have HF : Hid (true = wellB bal pos am) := by show true = _; unfold wellB; rw [decide_eq_true t1, decide_eq_true t2]; rfl
        go_wp2
        go_meet
        exact ⟨congrArg Value.bool HF.out, rfl⟩
      · have HF : Hid (false = wellB bal pos am) := by show false = _; unfold wellB; rw [decide_eq_false (show ¬ pos < 72057594037927936 - am by omega), Bool.and_false]
        have t3 : decide (pos < 72057594037927936 - am) = false := decide_eq_false (by omega)
        go_wp2
        go_meet
        exact ⟨congrArg Value.bool HF.out, rfl⟩
    · have HF : Hid (false = wellB bal pos am) := by show false = _; unfold wellB; rw [decide_eq_false (show ¬ bal < 4611686018427387904 - am by omega), Bool.false_and]
      have t3 : decide (bal < 4611686018427387904 - am) = false := decide_eq_false (by omega)
      go_wp2
      go_meet
      exact ⟨congrArg Value.bool HF.out, rfl⟩
  case rest =>
  obtain ⟨hs, hw⟩ := hcut
  obtain ⟨v, hv⟩ : ∃ v, wellB bal pos am = v := ⟨_, rfl⟩
  rw [hv] at hs
  have OV := OP.out v hv
  have OQ : Hid (v = false → postR (overK bal pos) [(1, 0, 1, am, 3, 0, 0)] = overK bal pos) := OV.2
  have HEV : Hid (E = (if v then 0 else 8)) := OV.1
  clear OV hv OP HE
  subst hs
  obtain rfl := hw.symm
  clear a1 a2 a3 a4
  obtain ⟨p0, p1, p2, p3⟩ := X5.out.below B57.out
  replace p0 : w7.cell? ⟨z, 0, none⟩ = some (.slice (some ⟨g, 0, none⟩) 3 vc) := p0
  replace p1 : w7.cell? ⟨z, 1, none⟩ = some (.slice (some ⟨sB, 0, none⟩) 3 3) := p1
  replace p2 : w7.cell? ⟨z, 2, none⟩ = some (.slice (some ⟨sM, 0, none⟩) 3 3) := p2
  replace p3 : w7.cell? ⟨z, 3, none⟩ = some (.slice (some ⟨sP, 0, none⟩) 3 3) := p3
  have P := post_any ⟨some ⟨g, 0, none⟩, 3, vc, some ⟨sB, 0, none⟩, 3, 3, some ⟨sM, 0, none⟩, 3, 3, some ⟨sP, 0, none⟩, 3, 3⟩ (overK bal pos) (some ⟨w7.heap.size, 0, none⟩) 1 1 [(1, 0, 0, 1, 3, 0, 0)] _ ((N5.out.below B57.out).below (box_below w7 _)) GB.out (PGood.lit1 w7 (1, 0, 0, 1, 3, 0, 0))
  unfold PostEnd at P
  rw [(post_no (over_self bal pos)).1] at P
  go_wp2_with fail
  go_at_call 11
  refine P.mono ?_
  rintro e w8 ⟨y, rfl, nb, hb⟩
  have B78 : Hid (Below w7.heap.size w7 w8) := (box_below _ _).trans (hb.mono (by rw [size_alloc]; omega))
  clear P nb hb p0 p1 p2 p3
  obtain ⟨vA, lA, dA, vB, lB, dB, vM, lM, dM, vP, lP, dP⟩ := y
  obtain ⟨w9, hw9⟩ : ∃ w9, w9 = w8.alloc (.cells #[.slice vA lA dA, .slice vB lB dB, .slice vM lM dM, .slice vP lP dP] 26) := ⟨_, rfl⟩
  have b9 : Below w8.heap.size w8 w9 := by rw [hw9]; exact box_below _ _
  have B79 : Hid (Below w7.heap.size w7 w9) := B78.out.trans (b9.mono B78.out.size)
  have B59 : Hid (Below w5.heap.size w5 w9) := B57.out.trans (B79.out.mono B57.out.size)
  have B9 : Hid (Below w.heap.size w w9) := B7.out.trans (B79.out.mono B7.out.size)
  clear b9 B78
  go_upto_region 10 with fail
  rw [← hw9]
  clear hw9
  cases v with
  | true =>
    obtain rfl : E = 0 := HEV.out
    go_wp2_with fail
    go_at_call 14
    refine (known16 w9).mono ?_
    rintro e wa ⟨rfl, hb⟩
    have Ba : Hid (Below w.heap.size w wa) := B9.out.trans (hb.mono B9.out.size)
    clear hb
    go_wp2
    go_ret
    exact ⟨rfl, Ba.out⟩
  | false =>
    obtain rfl : E = 8 := HEV.out
    obtain ⟨p0, p1, p2, p3⟩ := X5.out.below B59.out
    replace p0 : w9.cell? ⟨z, 0, none⟩ = some (.slice (some ⟨g, 0, none⟩) 3 vc) := p0
    replace p1 : w9.cell? ⟨z, 1, none⟩ = some (.slice (some ⟨sB, 0, none⟩) 3 3) := p1
    replace p2 : w9.cell? ⟨z, 2, none⟩ = some (.slice (some ⟨sM, 0, none⟩) 3 3) := p2
    replace p3 : w9.cell? ⟨z, 3, none⟩ = some (.slice (some ⟨sP, 0, none⟩) 3 3) := p3
    obtain ⟨o0, o1, o2, o3⟩ := X7.out.below B79.out
    replace o0 : w9.cell? ⟨w6.heap.size, 0, none⟩ = some (.slice yA mA eA) := o0
    replace o1 : w9.cell? ⟨w6.heap.size, 1, none⟩ = some (.slice yB mB eB) := o1
    replace o2 : w9.cell? ⟨w6.heap.size, 2, none⟩ = some (.slice yM mM eM) := o2
    replace o3 : w9.cell? ⟨w6.heap.size, 3, none⟩ = some (.slice yP mP eP) := o3
    have N9 := N7.out.below B79.out
    rw [OQ.out rfl] at N9
    have RS := refSame_any ⟨some ⟨g, 0, none⟩, 3, vc, some ⟨sB, 0, none⟩, 3, 3, some ⟨sM, 0, none⟩, 3, 3, some ⟨sP, 0, none⟩, 3, 3⟩ ⟨yA, mA, eA, yB, mB, eB, yM, mM, eM, yP, mP, eP⟩ (overK bal pos) (overK bal pos) w9 (N5.out.below B59.out) N9
    rw [sameB_self] at RS
    clear N9
    go_wp2_with fail
    go_at_call 13
    refine RS.mono ?_
    rintro e wb ⟨rfl, hb⟩
    have Bb : Hid (Below w.heap.size w wb) := B9.out.trans (hb.mono B9.out.size)
    clear hb RS p0 p1 p2 p3 o0 o1 o2 o3
    go_wp2_with fail
    go_at_call 14
    refine (known16 wb).mono ?_
    rintro e wa ⟨rfl, hb⟩
    have Ba : Hid (Below w.heap.size w wa) := Bb.out.trans (hb.mono Bb.out.size)
    clear hb
    go_wp2
    go_ret
    exact ⟨rfl, Ba.out⟩

end Go.Proofs.Ythpcpbjgihhjeaa
