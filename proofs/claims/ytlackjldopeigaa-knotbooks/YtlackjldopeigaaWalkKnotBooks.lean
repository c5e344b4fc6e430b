/-
  The walk of KnotBooks.
-/
import Derived.Test.YtlackjldopeigaaKnown20
import Derived.Test.YtlackjldopeigaaLimTwo
import Derived.Test.YtlackjldopeigaaRowBase
import Derived.Test.YtlackjldopeigaaRowRefs
import Derived.Test.YtlackjldopeigaaKnotRefRun
import Derived.Test.YtlackjldopeigaaLawSame
namespace Go.Proofs.Ytlackjldopeigaa
open Go.RowKit
set_option linter.unusedVariables false
set_option linter.unusedSimpArgs false

set_option maxHeartbeats 16000000 in
set_option maxRecDepth 100000 in
theorem knotBooks_of (x : BA) (b : Bks) (a : Option Addr) (n c : Nat) (L : List P7) (t : Int) (w : World) (hk : Bk w x b) (hp : PGood w a n c L) : Calls Try.prog 4 #[x.val, .slice a n c, .int .i64 t] w fun e w' => e = .returned (.bool true) ∧ Below w.heap.size w w' := by
  have HG : Hid (PGood w a n c L) := hp
  have HBK : Hid (Bk w x b) := hk
  have I := fun u (hu : Below w.heap.size w u) => refBooksIs_any x b u (hk.below hu)
  have QI : Hid (∀ u, Below w.heap.size w u → Calls Try.prog 18 #[.slice a n c] u fun e w' => e = .returned (.bool (qIs L)) ∧ Below u.heap.size u w') := fun u hu => refIs_any7 a n c L u (hp.below hu) (by have := hp.cap; have := hp.max; omega)
  have AL : Hid (∀ u, Below w.heap.size w u → Calls Try.prog 19 #[x.val, .slice a n c] u fun e w' => e = .returned (.bool (allB b L)) ∧ Below u.heap.size u w') := fun u hu => refFAll_any x b a n c L u hk.acc.1 (hp.below hu)
  have RA : Hid (Good b → Que L → allB b L = true → ∀ u, Below w.heap.size w u → Calls Try.prog 13 #[x.val, .slice a n c, .int .i64 t] u (FreeEnd u (knotR b L t))) := fun g q l u hu => knotRun_any x b a n c L t u (HBK.out.below hu) g (HG.out.below hu) q l
  have RB : Hid (Good b → Que L → allB b L = true → ∀ u, Below w.heap.size w u → Calls Try.prog 14 #[x.val, .slice a n c, .int .i64 t] u (FreeEnd u (knotR b L t))) := fun g q l u hu => refRun20_any x b a n c L t u (HBK.out.below hu) g (HG.out.below hu) q l
  have KN : Hid (∀ u, Calls Try.prog 16 #[] u fun e w' => e = .returned (.bool true) ∧ Below u.heap.size u w') := known20
  generalize knotR b L t = R at RA RB
  obtain ⟨aA, nA, cA, aB, nB, cB, aM, nM, cM, aP, nP, cP⟩ := x
  obtain ⟨w2, hw2⟩ : ∃ w2, w2 = w.alloc (.cells #[.slice aA nA cA, .slice aB nB cB, .slice aM nM cM, .slice aP nP cP] 27) := ⟨_, rfl⟩
  have B2 : Hid (Below w.heap.size w w2) := by rw [hw2]; exact box_below _ _
  have X2 : Hid (Box4 w2 w.heap.size ⟨aA, nA, cA, aB, nB, cB, aM, nM, cM, aP, nP, cP⟩) := by rw [hw2]; exact Box4.new w ⟨aA, nA, cA, aB, nB, cB, aM, nM, cM, aP, nP, cP⟩ _ _
  have I := I w2 B2.out
  obtain ⟨q, hq⟩ : ∃ q, booksB b = q := ⟨_, rfl⟩
  have HQ : Hid (booksB b = q) := hq
  rw [hq] at I
  obtain ⟨p0, p1, p2, p3⟩ := X2.out
  replace p0 : w2.cell? ⟨w.heap.size, 0, none⟩ = some (.slice aA nA cA) := p0
  replace p1 : w2.cell? ⟨w.heap.size, 1, none⟩ = some (.slice aB nB cB) := p1
  replace p2 : w2.cell? ⟨w.heap.size, 2, none⟩ = some (.slice aM nM cM) := p2
  replace p3 : w2.cell? ⟨w.heap.size, 3, none⟩ = some (.slice aP nP cP) := p3
  clear hq hk hp
  go_enter Try.func4, Try.ntmps4
  go_upto_region 1 with fail
  rw [← hw2]
  clear hw2
  go_wp2_with fail
  go_at_call 17
  refine I.mono ?_
  rintro e w3 ⟨rfl, hb⟩
  have X3 : Hid (Box4 w3 w.heap.size ⟨aA, nA, cA, aB, nB, cB, aM, nM, cM, aP, nP, cP⟩) := X2.out.below hb
  have B3 : Hid (Below w.heap.size w w3) := B2.out.trans (hb.mono B2.out.size)
  clear hb I p0 p1 p2 p3 X2 B2
  cases q with
  | false =>
    go_wp2
    go_ret
    exact ⟨rfl, B3.out⟩
  | true =>
  have GB : Hid (Good b) := booksB_yes.1 HQ.out
  have I := QI.out w3 B3.out
  obtain ⟨q, hq⟩ : ∃ q, qIs L = q := ⟨_, rfl⟩
  have HQ2 : Hid (qIs L = q) := hq
  rw [hq] at I
  clear hq QI HQ
  go_wp2_with fail
  go_at_call 18
  refine I.mono ?_
  rintro e w4 ⟨rfl, hb⟩
  have X4 : Hid (Box4 w4 w.heap.size ⟨aA, nA, cA, aB, nB, cB, aM, nM, cM, aP, nP, cP⟩) := X3.out.below hb
  have B4 : Hid (Below w.heap.size w w4) := B3.out.trans (hb.mono B3.out.size)
  clear hb I X3 B3
  cases q with
  | false =>
    go_wp2
    go_ret
    exact ⟨rfl, B4.out⟩
  | true =>
  have QB : Hid (Que L) := qIs_iff.1 HQ2.out
  rcases Nat.lt_or_ge 30 n with h30 | h30
  · have h1 : (30 : Int) < (n : Int) := by omega
    clear h30
    go_wp2
    go_ret
    exact ⟨rfl, B4.out⟩
  have h2 : decide ((30 : Int) < (n : Int)) = false := decide_eq_false (by omega)
  clear h30 HQ2
  have I := AL.out w4 B4.out
  obtain ⟨q, hq⟩ : ∃ q, allB b L = q := ⟨_, rfl⟩
  have HA : Hid (allB b L = q) := hq
  rw [hq] at I
  clear hq
  obtain ⟨p0, p1, p2, p3⟩ := X4.out
  replace p0 : w4.cell? ⟨w.heap.size, 0, none⟩ = some (.slice aA nA cA) := p0
  replace p1 : w4.cell? ⟨w.heap.size, 1, none⟩ = some (.slice aB nB cB) := p1
  replace p2 : w4.cell? ⟨w.heap.size, 2, none⟩ = some (.slice aM nM cM) := p2
  replace p3 : w4.cell? ⟨w.heap.size, 3, none⟩ = some (.slice aP nP cP) := p3
  clear AL
  go_wp2_with fail
  go_at_call 19
  refine I.mono ?_
  rintro e w5 ⟨rfl, hb⟩
  have X5 : Hid (Box4 w5 w.heap.size ⟨aA, nA, cA, aB, nB, cB, aM, nM, cM, aP, nP, cP⟩) := X4.out.below hb
  have B5 : Hid (Below w.heap.size w w5) := B4.out.trans (hb.mono B4.out.size)
  clear hb I X4 B4 p0 p1 p2 p3
  cases q with
  | false =>
    go_wp2
    go_ret
    exact ⟨rfl, B5.out⟩
  | true =>
  have CC := RA.out GB.out QB.out HA.out w5 B5.out
  obtain ⟨p0, p1, p2, p3⟩ := X5.out
  replace p0 : w5.cell? ⟨w.heap.size, 0, none⟩ = some (.slice aA nA cA) := p0
  replace p1 : w5.cell? ⟨w.heap.size, 1, none⟩ = some (.slice aB nB cB) := p1
  replace p2 : w5.cell? ⟨w.heap.size, 2, none⟩ = some (.slice aM nM cM) := p2
  replace p3 : w5.cell? ⟨w.heap.size, 3, none⟩ = some (.slice aP nP cP) := p3
  clear RA h2
  go_wp2_with fail
  go_at_call 13
  refine CC.mono ?_
  rintro e w6 ⟨y, al, nl, cl, ad, nd, cd, rfl, bk, gr, gl, -, gd, -, hb⟩
  obtain ⟨yA, mA, eA, yB, mB, eB, yM, mM, eM, yP, mP, eP⟩ := y
  obtain ⟨w7, hw7⟩ : ∃ w7, w7 = w6.alloc (.cells #[.slice yA mA eA, .slice yB mB eB, .slice yM mM eM, .slice yP mP eP] 27) := ⟨_, rfl⟩
  have b67 : Below w6.heap.size w6 w7 := by rw [hw7]; exact box_below _ _
  have b57 : Below w5.heap.size w5 w7 := hb.trans (b67.mono hb.size)
  have B7 : Hid (Below w.heap.size w w7) := B5.out.trans (b57.mono B5.out.size)
  have X7 : Hid (Box4 w7 w.heap.size ⟨aA, nA, cA, aB, nB, cB, aM, nM, cM, aP, nP, cP⟩) := X5.out.below b57
  have Y7 : Hid (Box4 w7 w6.heap.size ⟨yA, mA, eA, yB, mB, eB, yM, mM, eM, yP, mP, eP⟩) := by rw [hw7]; exact Box4.new w6 ⟨yA, mA, eA, yB, mB, eB, yM, mM, eM, yP, mP, eP⟩ _ _
  have K7 : Hid (Bk w7 ⟨yA, mA, eA, yB, mB, eB, yM, mM, eM, yP, mP, eP⟩ R.1) := bk.below b67
  have L7 : Hid (PGood w7 al nl cl R.2.1) := gl.below b67
  have D7 : Hid (PGood w7 ad nd cd R.2.2) := gd.below b67
  clear CC hb bk gr gl gd b67 b57 p0 p1 p2 p3 X5 B5
  go_upto_region 4 with fail
  rw [← hw7]
  clear hw7
  have CC := RB.out GB.out QB.out HA.out w7 B7.out
  obtain ⟨p0, p1, p2, p3⟩ := X7.out
  replace p0 : w7.cell? ⟨w.heap.size, 0, none⟩ = some (.slice aA nA cA) := p0
  replace p1 : w7.cell? ⟨w.heap.size, 1, none⟩ = some (.slice aB nB cB) := p1
  replace p2 : w7.cell? ⟨w.heap.size, 2, none⟩ = some (.slice aM nM cM) := p2
  replace p3 : w7.cell? ⟨w.heap.size, 3, none⟩ = some (.slice aP nP cP) := p3
  clear RB
  go_wp2_with fail
  go_at_call 14
  refine CC.mono ?_
  rintro e w8 ⟨z, bl, ml, kl, bd, md, kd, rfl, bk, gr, gl, -, gd, -, hb⟩
  obtain ⟨vA, lA, dA, vB, lB, dB, vM, lM, dM, vP, lP, dP⟩ := z
  obtain ⟨w9, hw9⟩ : ∃ w9, w9 = w8.alloc (.cells #[.slice vA lA dA, .slice vB lB dB, .slice vM lM dM, .slice vP lP dP] 27) := ⟨_, rfl⟩
  have b89 : Below w8.heap.size w8 w9 := by rw [hw9]; exact box_below _ _
  have b79 : Below w7.heap.size w7 w9 := hb.trans (b89.mono hb.size)
  have B9 : Hid (Below w.heap.size w w9) := B7.out.trans (b79.mono B7.out.size)
  have Y9 : Hid (Box4 w9 w6.heap.size ⟨yA, mA, eA, yB, mB, eB, yM, mM, eM, yP, mP, eP⟩) := Y7.out.below b79
  have Z9 : Hid (Box4 w9 w8.heap.size ⟨vA, lA, dA, vB, lB, dB, vM, lM, dM, vP, lP, dP⟩) := by rw [hw9]; exact Box4.new w8 ⟨vA, lA, dA, vB, lB, dB, vM, lM, dM, vP, lP, dP⟩ _ _
  have S := law_same ⟨yA, mA, eA, yB, mB, eB, yM, mM, eM, yP, mP, eP⟩ ⟨vA, lA, dA, vB, lB, dB, vM, lM, dM, vP, lP, dP⟩ R.1 al ad bl bd nl cl nd cd ml kl md kd R.2.1 R.2.2 w9 (K7.out.below b79) (bk.below b89) (L7.out.below b79) (D7.out.below b79) (gl.below b89) (gd.below b89)
  clear CC hb bk gr gl gd b89 b79 p0 p1 p2 p3 X7 B7 Y7 K7 L7 D7
  go_upto_region 5 with fail
  rw [← hw9]
  clear hw9
  obtain ⟨p0, p1, p2, p3⟩ := Y9.out
  replace p0 : w9.cell? ⟨w6.heap.size, 0, none⟩ = some (.slice yA mA eA) := p0
  replace p1 : w9.cell? ⟨w6.heap.size, 1, none⟩ = some (.slice yB mB eB) := p1
  replace p2 : w9.cell? ⟨w6.heap.size, 2, none⟩ = some (.slice yM mM eM) := p2
  replace p3 : w9.cell? ⟨w6.heap.size, 3, none⟩ = some (.slice yP mP eP) := p3
  obtain ⟨o0, o1, o2, o3⟩ := Z9.out
  replace o0 : w9.cell? ⟨w8.heap.size, 0, none⟩ = some (.slice vA lA dA) := o0
  replace o1 : w9.cell? ⟨w8.heap.size, 1, none⟩ = some (.slice vB lB dB) := o1
  replace o2 : w9.cell? ⟨w8.heap.size, 2, none⟩ = some (.slice vM lM dM) := o2
  replace o3 : w9.cell? ⟨w8.heap.size, 3, none⟩ = some (.slice vP lP dP) := o3
  go_wp2_with fail
  go_at_call 15
  refine S.mono ?_
  rintro e wa ⟨rfl, hb⟩
  have Ba : Hid (Below w.heap.size w wa) := B9.out.trans (hb.mono B9.out.size)
  have KK := KN.out wa
  clear S hb p0 p1 p2 p3 o0 o1 o2 o3
  go_wp2_with fail
  go_at_call 16
  refine KK.mono ?_
  rintro e wb ⟨rfl, hb⟩
  have Bb : Hid (Below w.heap.size w wb) := Ba.out.trans (hb.mono Ba.out.size)
  clear KK hb
  go_wp2
  go_ret
  exact ⟨rfl, Bb.out⟩

theorem Walk.knotBooks (x : BA) (b : Bks) (a : Option Addr) (n c : Nat) (L : List P7) (t : Int) (w : World) (hk : Bk w x b) (hp : PaysIn w a n c L) (htw : (Lit.int .i64 t).wf = true) : Calls Try.prog 4 #[x.val, .slice a n c, .int .i64 t] w fun e w' => e = .returned (.bool true) ∧ Below w.heap.size w w' :=
  knotBooks_of x b a n c L t w hk hp.good

end Go.Proofs.Ytlackjldopeigaa
