/-
  The walk of PairRuns.
-/
import Derived.Test.YtajmbcbochjfmaaPairRun
import Derived.Test.YtajmbcbochjfmaaPairRefRun
import Derived.Test.YtajmbcbochjfmaaKnown19
import Derived.Test.YtajmbcbochjfmaaRowRefs
import Derived.Test.YtajmbcbochjfmaaViewAll
import Derived.Test.YtajmbcbochjfmaaRowBase
namespace Go.Proofs.Ytajmbcbochjfmaa
open Go.RowKit
set_option linter.unusedVariables false
set_option linter.unusedSimpArgs false

set_option maxHeartbeats 16000000 in
set_option maxRecDepth 100000 in
theorem Walk.pairRuns (ah : Option Addr) (nh ch : Nat) (zh : List Int) (way : Int) (a : Option Addr) (n c : Nat) (L : List P7) (t : Int) (w : World) (h0 : Walk.IsRow .i64 w ah nh ch zh) (hway : (Lit.int .i64 way).wf = true) (hp : PaysIn w a n c L) (htw : (Lit.int .i64 t).wf = true) :
    Calls Try.prog 3 #[.slice ah nh ch, .int .i64 way, .slice a n c, .int .i64 t] w fun e w' => e = .returned (.bool true) ∧ Below w.heap.size w w' := by
  rcases Nat.lt_or_ge 30 n with h30 | h30
  · have h1 : (30 : Int) < (n : Int) := by omega
    clear h0 hway hp h30 htw
    go_enter Try.func3, Try.ntmps3
    go_wp2
    go_ret
    exact ⟨rfl, Below.refl _ _⟩
  have h1 : (n : Int) ≤ 30 := by omega
  obtain ⟨hsl, hcap, hmax⟩ := h0.sl fun n hn => by
    simp only [Lit.wf, Bool.and_eq_true, decide_eq_true_eq] at hn
    exact i64_wf hn.1 hn.2
  have S := some_any ah nh ch (zh.take nh) way w hsl (by omega)
  obtain ⟨kb, hkb⟩ : ∃ kb, someK (zh.take nh) (bitB way 1) (bitB way 2) (bitB way 4) = kb := ⟨_, rfl⟩
  rw [hkb] at S
  have GB : Hid (Good kb) := by rw [← hkb]; exact good_some _ _ _ _
  have HG : Hid (PGood w a n c L) := hp.good
  have HL : Hid (n = L.length) := hp.good.len
  obtain ⟨hq, hlen, hall⟩ := rowed_ok (L := L) (by have := HL.out; omega)
  have HR : Hid ((rowedL L).length = n) := by show _ = _; rw [hlen, HL.out]
  have HQ : Hid (Que (rowedL L) ∧ FrOk (rowedL L)) := ⟨hq, RowedP.fr_ok hall⟩
  have RW := fun u (hu : Below w.heap.size w u) => rowed_any a n c L u (HG.out.below hu) (by omega)
  have KN : Hid (∀ u, Calls Try.prog 14 #[] u fun e w' => e = .returned (.bool true) ∧ Below u.heap.size u w') := known19 runQ_as
  clear hkb hsl h0 hlen hp hway htw hall hq
  go_enter Try.func3, Try.ntmps3
  go_wp2_with fail
  go_at_call 7
  refine S.mono ?_
  rintro e w1 ⟨yb, rfl, nb, bel⟩
  have B1 : Hid (Below w.heap.size w w1) := bel
  have N1 : Hid (Bk w1 yb kb) := nb.bk
  have R := RW w1 bel
  clear S nb bel RW
  go_wp2_with fail
  go_at_call 8
  refine R.mono ?_
  rintro e w2 ⟨ar, cr, rfl, gr, hb⟩
  have BW2 : Hid (Below w.heap.size w w2) := B1.out.trans (hb.mono B1.out.size)
  have N2 : Hid (Bk w2 yb kb) := N1.out.below hb
  have G2 : Hid (PGood w2 ar n cr (rowedL L)) := by rw [← HR.out]; exact gr
  rw [HR.out]
  clear hb R N1 B1 gr
  obtain ⟨aA, nA, cA, aB, nB, cB, aM, nM, cM, aP, nP, cP⟩ := yb
  obtain ⟨w3, hw3⟩ : ∃ w3, w3 = w2.alloc (.cells #[.slice aA nA cA, .slice aB nB cB, .slice aM nM cM, .slice aP nP cP] 27) := ⟨_, rfl⟩
  obtain ⟨z, hz⟩ : ∃ z, w2.heap.size = z := ⟨_, rfl⟩
  have BW3 : Hid (Below w.heap.size w w3) := by rw [hw3]; exact BW2.out.alloc BW2.out.size _
  have X3 : Hid (Box4 w3 z ⟨aA, nA, cA, aB, nB, cB, aM, nM, cM, aP, nP, cP⟩) := by rw [hw3, ← hz]; exact Box4.new w2 ⟨aA, nA, cA, aB, nB, cB, aM, nM, cM, aP, nP, cP⟩ _ _
  have N3 : Hid (Bk w3 ⟨aA, nA, cA, aB, nB, cB, aM, nM, cM, aP, nP, cP⟩ kb) := by rw [hw3]; exact N2.out.below (box_below _ _)
  have G3 : Hid (PGood w3 ar n cr (rowedL L)) := by rw [hw3]; exact G2.out.below (box_below _ _)
  clear N2 G2 BW2
  have F1 : Hid (∀ u, Below w3.heap.size w3 u → Calls Try.prog 9 #[.agg #[.slice aA nA cA, .slice aB nB cB, .slice aM nM cM, .slice aP nP cP], .slice ar n cr, .int .i64 t] u fun e w' => e = .returned (.tuple #[((nextQ kb (rowedL L) t).getD n70).1.val, ((nextQ kb (rowedL L) t).getD n70).2.val, .bool (nextQ kb (rowedL L) t).isSome]) ∧ Below u.heap.size u w') := fun u hu => nextQ_any ⟨aA, nA, cA, aB, nB, cB, aM, nM, cM, aP, nP, cP⟩ kb ar n cr _ t u (N3.out.below hu) GB.out (G3.out.below hu) (by omega) HQ.out.2
  have F2 : Hid (∀ u, Below w3.heap.size w3 u → Calls Try.prog 10 #[.agg #[.slice aA nA cA, .slice aB nB cB, .slice aM nM cM, .slice aP nP cP], .slice ar n cr, .int .i64 t] u fun e w' => e = .returned (.tuple #[((nextQ kb (rowedL L) t).getD n70).1.val, ((nextQ kb (rowedL L) t).getD n70).2.val, .bool (nextQ kb (rowedL L) t).isSome]) ∧ Below u.heap.size u w') := fun u hu => refNextQ_any ⟨aA, nA, cA, aB, nB, cB, aM, nM, cM, aP, nP, cP⟩ kb ar n cr _ t u (N3.out.below hu) GB.out (G3.out.below hu) (by omega) HQ.out.1.2
  have F3 : Hid (∀ u, Below w3.heap.size w3 u → Calls Try.prog 11 #[.agg #[.slice aA nA cA, .slice aB nB cB, .slice aM nM cM, .slice aP nP cP], .slice ar n cr, .int .i64 t] u (FreeEnd u (runQ kb (rowedL L) t))) := fun u hu => runQ_any ⟨aA, nA, cA, aB, nB, cB, aM, nM, cM, aP, nP, cP⟩ kb ar n cr _ t u (N3.out.below hu) GB.out (G3.out.below hu) HQ.out.1 HQ.out.2
  have F4 : Hid (∀ u, Below w3.heap.size w3 u → Calls Try.prog 12 #[.agg #[.slice aA nA cA, .slice aB nB cB, .slice aM nM cM, .slice aP nP cP], .slice ar n cr, .int .i64 t] u (FreeEnd u (runQ kb (rowedL L) t))) := fun u hu => refRunQ_any ⟨aA, nA, cA, aB, nB, cB, aM, nM, cM, aP, nP, cP⟩ kb ar n cr _ t u (N3.out.below hu) GB.out (G3.out.below hu) HQ.out.1
  generalize runQ kb (rowedL L) t = R at F3 F4
  generalize (nextQ kb (rowedL L) t).isSome = q at F1 F2
  generalize (nextQ kb (rowedL L) t).getD n70 = p at F1 F2
  obtain ⟨p, r⟩ := p
  obtain ⟨x0, x1, x2, x3, x4, x5, x6⟩ := p
  obtain ⟨y0, y1, y2, y3, y4, y5, y6⟩ := r
  clear HR HG HL HQ N3 G3 GB
  go_upto_region 4 with fail
  rw [← hw3]
  clear hw3
  try rw [hz]
  clear hz
  have CC := F1.out w3 (Below.refl _ _)
  obtain ⟨p0, p1, p2, p3⟩ := X3.out
  replace p0 : w3.cell? ⟨z, 0, none⟩ = some (.slice aA nA cA) := p0
  replace p1 : w3.cell? ⟨z, 1, none⟩ = some (.slice aB nB cB) := p1
  replace p2 : w3.cell? ⟨z, 2, none⟩ = some (.slice aM nM cM) := p2
  replace p3 : w3.cell? ⟨z, 3, none⟩ = some (.slice aP nP cP) := p3
  go_wp2_with fail
  go_at_call 9
  refine CC.mono ?_
  rintro e w4 ⟨rfl, hb⟩
  obtain ⟨w5, hw5⟩ : ∃ w5, w5 = (w4.alloc (.cells #[.int .i64 x0, .int .i64 x1, .int .i64 x2, .int .i64 x3, .int .i64 x4, .int .i64 x5, .int .i64 x6] 31)).alloc (.cells #[.int .i64 y0, .int .i64 y1, .int .i64 y2, .int .i64 y3, .int .i64 y4, .int .i64 y5, .int .i64 y6] 31) := ⟨_, rfl⟩
  obtain ⟨g, hg⟩ : ∃ g, w4.heap.size = g := ⟨_, rfl⟩
  have b5 : Below w3.heap.size w3 w5 := by rw [hw5]; exact hb.trans (((box_below _ _).alloc (box_below _ _).size _).mono hb.size)
  have D5 : Hid (Below w3.heap.size w3 w5) := b5
  have P5 : Hid (PBox w5 g (x0, x1, x2, x3, x4, x5, x6)) := by rw [hw5, ← hg]; exact (PBox.new w4 (x0, x1, x2, x3, x4, x5, x6)).below (box_below _ _)
  have Q5 : Hid (PBox w5 (g + 1) (y0, y1, y2, y3, y4, y5, y6)) := by
    have := PBox.new (w4.alloc (.cells #[.int .i64 x0, .int .i64 x1, .int .i64 x2, .int .i64 x3, .int .i64 x4, .int .i64 x5, .int .i64 x6] 31)) (y0, y1, y2, y3, y4, y5, y6)
    rw [size_alloc, hg] at this
    rw [hw5]
    exact this
  clear CC hb b5 p0 p1 p2 p3 F1
  go_upto_region 5 with fail
  rw [← hw5]
  clear hw5
  try rw [hg]
  clear hg
  have CC := F2.out w5 D5.out
  obtain ⟨p0, p1, p2, p3⟩ := X3.out.below D5.out
  replace p0 : w5.cell? ⟨z, 0, none⟩ = some (.slice aA nA cA) := p0
  replace p1 : w5.cell? ⟨z, 1, none⟩ = some (.slice aB nB cB) := p1
  replace p2 : w5.cell? ⟨z, 2, none⟩ = some (.slice aM nM cM) := p2
  replace p3 : w5.cell? ⟨z, 3, none⟩ = some (.slice aP nP cP) := p3
  go_wp2_with fail
  go_at_call 10
  refine CC.mono ?_
  rintro e w6 ⟨rfl, hb⟩
  obtain ⟨w7, hw7⟩ : ∃ w7, w7 = (w6.alloc (.cells #[.int .i64 x0, .int .i64 x1, .int .i64 x2, .int .i64 x3, .int .i64 x4, .int .i64 x5, .int .i64 x6] 31)).alloc (.cells #[.int .i64 y0, .int .i64 y1, .int .i64 y2, .int .i64 y3, .int .i64 y4, .int .i64 y5, .int .i64 y6] 31) := ⟨_, rfl⟩
  obtain ⟨f, hf⟩ : ∃ f, w6.heap.size = f := ⟨_, rfl⟩
  have b7 : Below w5.heap.size w5 w7 := by rw [hw7]; exact hb.trans (((box_below _ _).alloc (box_below _ _).size _).mono hb.size)
  have D7 : Hid (Below w3.heap.size w3 w7) := D5.out.trans (b7.mono D5.out.size)
  have P7a : Hid (PBox w7 g (x0, x1, x2, x3, x4, x5, x6)) := P5.out.below b7
  have Q7a : Hid (PBox w7 (g + 1) (y0, y1, y2, y3, y4, y5, y6)) := Q5.out.below b7
  have P7b : Hid (PBox w7 f (x0, x1, x2, x3, x4, x5, x6)) := by rw [hw7, ← hf]; exact (PBox.new w6 (x0, x1, x2, x3, x4, x5, x6)).below (box_below _ _)
  have Q7b : Hid (PBox w7 (f + 1) (y0, y1, y2, y3, y4, y5, y6)) := by
    have := PBox.new (w6.alloc (.cells #[.int .i64 x0, .int .i64 x1, .int .i64 x2, .int .i64 x3, .int .i64 x4, .int .i64 x5, .int .i64 x6] 31)) (y0, y1, y2, y3, y4, y5, y6)
    rw [size_alloc, hf] at this
    rw [hw7]
    exact this
  clear CC hb b7 p0 p1 p2 p3 F2 D5 P5 Q5
  go_upto_region 6 with fail
  rw [← hw7]
  clear hw7
  try rw [hf]
  clear hf
  have CC := F3.out w7 D7.out
  obtain ⟨p0, p1, p2, p3⟩ := X3.out.below D7.out
  replace p0 : w7.cell? ⟨z, 0, none⟩ = some (.slice aA nA cA) := p0
  replace p1 : w7.cell? ⟨z, 1, none⟩ = some (.slice aB nB cB) := p1
  replace p2 : w7.cell? ⟨z, 2, none⟩ = some (.slice aM nM cM) := p2
  replace p3 : w7.cell? ⟨z, 3, none⟩ = some (.slice aP nP cP) := p3
  go_wp2_with fail
  go_at_call 11
  refine CC.mono ?_
  rintro e w8 ⟨y, al, nl, cl, ad, nd, cd, rfl, bk, -, gl, -, gd, -, hb⟩
  obtain ⟨yA, mA, eA, yB, mB, eB, yM, mM, eM, yP, mP, eP⟩ := y
  obtain ⟨w9, hw9⟩ : ∃ w9, w9 = w8.alloc (.cells #[.slice yA mA eA, .slice yB mB eB, .slice yM mM eM, .slice yP mP eP] 27) := ⟨_, rfl⟩
  obtain ⟨j, hj⟩ : ∃ j, w8.heap.size = j := ⟨_, rfl⟩
  have b89 : Below w8.heap.size w8 w9 := by rw [hw9]; exact box_below _ _
  have b9 : Below w7.heap.size w7 w9 := hb.trans (b89.mono hb.size)
  have D9 : Hid (Below w3.heap.size w3 w9) := D7.out.trans (b9.mono D7.out.size)
  have P9a : Hid (PBox w9 g (x0, x1, x2, x3, x4, x5, x6)) := P7a.out.below b9
  have P9b : Hid (PBox w9 f (x0, x1, x2, x3, x4, x5, x6)) := P7b.out.below b9
  have Q9a : Hid (PBox w9 (g + 1) (y0, y1, y2, y3, y4, y5, y6)) := Q7a.out.below b9
  have Q9b : Hid (PBox w9 (f + 1) (y0, y1, y2, y3, y4, y5, y6)) := Q7b.out.below b9
  have Y9 : Hid (Box4 w9 j ⟨yA, mA, eA, yB, mB, eB, yM, mM, eM, yP, mP, eP⟩) := by rw [hw9, ← hj]; exact Box4.new w8 ⟨yA, mA, eA, yB, mB, eB, yM, mM, eM, yP, mP, eP⟩ _ _
  have K9 : Hid (Bk w9 ⟨yA, mA, eA, yB, mB, eB, yM, mM, eM, yP, mP, eP⟩ R.1) := bk.below b89
  have L9 : Hid (PGood w9 al nl cl R.2.1) := gl.below b89
  have E9 : Hid (PGood w9 ad nd cd R.2.2) := gd.below b89
  clear CC hb b89 b9 bk gl gd p0 p1 p2 p3 F3 D7 P7a P7b Q7a Q7b
  go_upto_region 7 with fail
  rw [← hw9]
  clear hw9
  try rw [hj]
  clear hj
  have CC := F4.out w9 D9.out
  obtain ⟨p0, p1, p2, p3⟩ := X3.out.below D9.out
  replace p0 : w9.cell? ⟨z, 0, none⟩ = some (.slice aA nA cA) := p0
  replace p1 : w9.cell? ⟨z, 1, none⟩ = some (.slice aB nB cB) := p1
  replace p2 : w9.cell? ⟨z, 2, none⟩ = some (.slice aM nM cM) := p2
  replace p3 : w9.cell? ⟨z, 3, none⟩ = some (.slice aP nP cP) := p3
  go_wp2_with fail
  go_at_call 12
  refine CC.mono ?_
  rintro e wa ⟨y, bl, ml, kl, bd, md, kd, rfl, bk, -, gl, -, gd, -, hb⟩
  obtain ⟨vA, lA, dA, vB, lB, dB, vM, lM, dM, vP, lP, dP⟩ := y
  obtain ⟨wb, hwb⟩ : ∃ wb, wb = wa.alloc (.cells #[.slice vA lA dA, .slice vB lB dB, .slice vM lM dM, .slice vP lP dP] 27) := ⟨_, rfl⟩
  obtain ⟨i, hi⟩ : ∃ i, wa.heap.size = i := ⟨_, rfl⟩
  have b89 : Below wa.heap.size wa wb := by rw [hwb]; exact box_below _ _
  have b9 : Below w9.heap.size w9 wb := hb.trans (b89.mono hb.size)
  have BWb : Hid (Below w.heap.size w wb) := BW3.out.trans ((D9.out.trans (b9.mono D9.out.size)).mono BW3.out.size)
  have Pba : Hid (PBox wb g (x0, x1, x2, x3, x4, x5, x6)) := P9a.out.below b9
  have Pbb : Hid (PBox wb f (x0, x1, x2, x3, x4, x5, x6)) := P9b.out.below b9
  have Qba : Hid (PBox wb (g + 1) (y0, y1, y2, y3, y4, y5, y6)) := Q9a.out.below b9
  have Qbb : Hid (PBox wb (f + 1) (y0, y1, y2, y3, y4, y5, y6)) := Q9b.out.below b9
  have Yb : Hid (Box4 wb j ⟨yA, mA, eA, yB, mB, eB, yM, mM, eM, yP, mP, eP⟩) := Y9.out.below b9
  have Zb : Hid (Box4 wb i ⟨vA, lA, dA, vB, lB, dB, vM, lM, dM, vP, lP, dP⟩) := by rw [hwb, ← hi]; exact Box4.new wa ⟨vA, lA, dA, vB, lB, dB, vM, lM, dM, vP, lP, dP⟩ _ _
  have S := law_same ⟨yA, mA, eA, yB, mB, eB, yM, mM, eM, yP, mP, eP⟩ ⟨vA, lA, dA, vB, lB, dB, vM, lM, dM, vP, lP, dP⟩ R.1 al ad bl bd nl cl nd cd ml kl md kd R.2.1 R.2.2 wb (K9.out.below b9) (bk.below b89) (L9.out.below b9) (E9.out.below b9) (gl.below b89) (gd.below b89)
  clear CC hb b89 b9 bk gl gd p0 p1 p2 p3 F4 D9 P9a P9b Q9a Q9b X3 BW3 Y9 K9 L9 E9
  go_upto_region 8 with fail
  rw [← hwb]
  clear hwb
  try rw [hi]
  clear hi
  obtain ⟨r0, r1, r2, r3, r4, r5, r6⟩ := Pba.out.at7
  simp only [P7.id, P7.fr, P7.to, P7.am, P7.cl, P7.st, P7.ti, Nat.zero_add] at r0 r1 r2 r3 r4 r5 r6
  obtain ⟨s0, s1, s2, s3, s4, s5, s6⟩ := Pbb.out.at7
  simp only [P7.id, P7.fr, P7.to, P7.am, P7.cl, P7.st, P7.ti, Nat.zero_add] at s0 s1 s2 s3 s4 s5 s6
  obtain ⟨p0, p1, p2, p3⟩ := Yb.out
  replace p0 : wb.cell? ⟨j, 0, none⟩ = some (.slice yA mA eA) := p0
  replace p1 : wb.cell? ⟨j, 1, none⟩ = some (.slice yB mB eB) := p1
  replace p2 : wb.cell? ⟨j, 2, none⟩ = some (.slice yM mM eM) := p2
  replace p3 : wb.cell? ⟨j, 3, none⟩ = some (.slice yP mP eP) := p3
  obtain ⟨o0, o1, o2, o3⟩ := Zb.out
  replace o0 : wb.cell? ⟨i, 0, none⟩ = some (.slice vA lA dA) := o0
  replace o1 : wb.cell? ⟨i, 1, none⟩ = some (.slice vB lB dB) := o1
  replace o2 : wb.cell? ⟨i, 2, none⟩ = some (.slice vM lM dM) := o2
  replace o3 : wb.cell? ⟨i, 3, none⟩ = some (.slice vP lP dP) := o3
  obtain ⟨k0, k1, k2, k3, k4, k5, k6⟩ := Qba.out.at7
  simp only [P7.id, P7.fr, P7.to, P7.am, P7.cl, P7.st, P7.ti, Nat.zero_add] at k0 k1 k2 k3 k4 k5 k6
  obtain ⟨l0, l1, l2, l3, l4, l5, l6⟩ := Qbb.out.at7
  simp only [P7.id, P7.fr, P7.to, P7.am, P7.cl, P7.st, P7.ti, Nat.zero_add] at l0 l1 l2 l3 l4 l5 l6
  have hqq : (q == q) = true := by cases q <;> rfl
  go_wp2_with fail
  go_at_call 13
  refine S.mono ?_
  rintro e wc ⟨rfl, hb⟩
  have Bc : Hid (Below w.heap.size w wc) := BWb.out.trans (hb.mono BWb.out.size)
  have KK := KN.out wc
  clear S hb p0 p1 p2 p3 o0 o1 o2 o3 r0 r1 r2 r3 r4 r5 r6 s0 s1 s2 s3 s4 s5 s6 k0 k1 k2 k3 k4 k5 k6 l0 l1 l2 l3 l4 l5 l6
  go_wp2_with fail
  go_at_call 14
  refine KK.mono ?_
  rintro e wd ⟨rfl, hb⟩
  have Bd : Hid (Below w.heap.size w wd) := Bc.out.trans (hb.mono Bc.out.size)
  clear KK hb
  go_wp2
  go_ret
  exact ⟨rfl, Bd.out⟩

end Go.Proofs.Ytajmbcbochjfmaa
