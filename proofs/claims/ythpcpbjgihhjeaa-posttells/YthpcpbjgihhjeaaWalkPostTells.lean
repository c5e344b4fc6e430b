/-
  The walk of PostTells.
-/
import Derived.Test.YthpcpbjgihhjeaaKnown16
import Derived.Test.YthpcpbjgihhjeaaLimTwo
import Derived.Test.YthpcpbjgihhjeaaRowBase
namespace Go.Proofs.Ythpcpbjgihhjeaa
open Go.RowKit
set_option linter.unusedVariables false
set_option linter.unusedSimpArgs false

set_option maxHeartbeats 8000000 in
set_option maxRecDepth 100000 in
theorem Walk.postTells (x : BA) (b : Bks) (a : Option Addr) (n c : Nat) (L : List P7) (w : World) (hk : Bk w x b) (hp : PaysIn w a n c L) : Calls Try.prog 3 #[x.val, .slice a n c] w fun e w' => e = .returned (.bool true) ∧ Below w.heap.size w w' := by
  have HG : Hid (PGood w a n c L) := hp.good
  have HBK : Hid (Bk w x b) := hk
  have I := fun u (hu : Below w.heap.size w u) => refBooksIs_any x b u (hk.below hu)
  have CP : Hid (Good b → ∀ u, Below w.heap.size w u → Calls Try.prog 10 #[x.val] u (BooksEnd u b)) := fun g u hu => refCopy_any x b u (HBK.out.below hu) g.small
  have PP : Hid (Good b → ∀ u, Below w.heap.size w u → Calls Try.prog 11 #[x.val, .slice a n c] u (PostEnd u b L)) := fun g u hu => post_any x b a n c L u (HBK.out.below hu) g (HG.out.below hu)
  have RP : Hid (Good b → ∀ u, Below w.heap.size w u → Calls Try.prog 12 #[x.val, .slice a n c] u (RefPostEnd u b L)) := fun g u hu => refPost_any x b a n c L u (HBK.out.below hu) g (HG.out.below hu)
  obtain ⟨aA, nA, cA, aB, nB, cB, aM, nM, cM, aP, nP, cP⟩ := x
  obtain ⟨w2, hw2⟩ : ∃ w2, w2 = w.alloc (.cells #[.slice aA nA cA, .slice aB nB cB, .slice aM nM cM, .slice aP nP cP] 26) := ⟨_, rfl⟩
  have B2 : Hid (Below w.heap.size w w2) := by rw [hw2]; exact box_below _ _
  have X2 : Hid (Box4 w2 w.heap.size ⟨aA, nA, cA, aB, nB, cB, aM, nM, cM, aP, nP, cP⟩) := by rw [hw2]; exact Box4.new w ⟨aA, nA, cA, aB, nB, cB, aM, nM, cM, aP, nP, cP⟩ _ _
  have I := I w2 B2.out
  obtain ⟨q, hq⟩ : ∃ q, booksB b = q := ⟨_, rfl⟩
  have HQ : Hid (booksB b = q) := hq
  rw [hq] at I
  obtain ⟨p0, p1, p2, p3⟩ := X2.out
  replace p0 : w2.cell? ⟨w.heap.size, 0, none⟩ = some (.slice aA nA cA) := p0
  replace p1 : w2.cell? ⟨w.heap.size, 1, none⟩ = some (.slice aB nB cB) := p1
  replace p2 : w2.cell? ⟨w.heap.size, 2, none⟩ = some (.slice aM nM cM) := p2
  replace p3 : w2.cell? ⟨w.heap.size, 3, none⟩ = some (.slice aP nP cP) := p3
  clear hq hk hp
  go_enter Try.func3, Try.ntmps3
  go_upto_region 1 with fail
  rw [← hw2]
  clear hw2
  go_wp2_with fail
  go_at_call 9
  refine I.mono ?_
  rintro e w3 ⟨rfl, hb⟩
  have X3 : Hid (Box4 w3 w.heap.size ⟨aA, nA, cA, aB, nB, cB, aM, nM, cM, aP, nP, cP⟩) := X2.out.below hb
  have B3 : Hid (Below w.heap.size w w3) := B2.out.trans (hb.mono B2.out.size)
  clear hb I p0 p1 p2 p3 X2 B2
  cases q with
  | false =>
    go_wp2
    go_ret
    exact ⟨rfl, B3.out⟩
  | true =>
  have GB : Hid (Good b) := booksB_yes.1 HQ.out
  rcases Nat.lt_or_ge 70 n with h70 | h70
  · have h1 : (70 : Int) < (n : Int) := by omega
    clear h70
    go_wp2
    go_ret
    exact ⟨rfl, B3.out⟩
  have h1 : ¬ (70 : Int) < (n : Int) := by omega
  have h2 : decide ((70 : Int) < (n : Int)) = false := decide_eq_false h1
  clear h70
  obtain ⟨p0, p1, p2, p3⟩ := X3.out
  replace p0 : w3.cell? ⟨w.heap.size, 0, none⟩ = some (.slice aA nA cA) := p0
  replace p1 : w3.cell? ⟨w.heap.size, 1, none⟩ = some (.slice aB nB cB) := p1
  replace p2 : w3.cell? ⟨w.heap.size, 2, none⟩ = some (.slice aM nM cM) := p2
  replace p3 : w3.cell? ⟨w.heap.size, 3, none⟩ = some (.slice aP nP cP) := p3
  have CC := CP.out GB.out w3 B3.out
  go_wp2_with fail
  go_at_call 10
  refine CC.mono ?_
  rintro e w4 ⟨y, rfl, hn, hb⟩
  clear CC p0 p1 p2 p3 CP
  obtain ⟨uA, jA, kA, uB, jB, kB, uM, jM, kM, uP, jP, kP⟩ := y
  have K4 : Hid (Bk w4 ⟨uA, jA, kA, uB, jB, kB, uM, jM, kM, uP, jP, kP⟩ b) := hn.bk
  have B4 : Hid (Below w.heap.size w w4) := B3.out.trans (hb.mono B3.out.size)
  have X4 : Hid (Box4 w4 w.heap.size ⟨aA, nA, cA, aB, nB, cB, aM, nM, cM, aP, nP, cP⟩) := X3.out.below hb
  clear hn hb X3 B3
  obtain ⟨w5, hw5⟩ : ∃ w5, w5 = w4.alloc (.cells #[.slice uA jA kA, .slice uB jB kB, .slice uM jM kM, .slice uP jP kP] 26) := ⟨_, rfl⟩
  have b5 : Below w4.heap.size w4 w5 := by rw [hw5]; exact box_below _ _
  have N5 : Hid (Box4 w5 w4.heap.size ⟨uA, jA, kA, uB, jB, kB, uM, jM, kM, uP, jP, kP⟩) := by rw [hw5]; exact Box4.new w4 ⟨uA, jA, kA, uB, jB, kB, uM, jM, kM, uP, jP, kP⟩ _ _
  have K5 : Hid (Bk w5 ⟨uA, jA, kA, uB, jB, kB, uM, jM, kM, uP, jP, kP⟩ b) := K4.out.below b5
  have B5 : Hid (Below w.heap.size w w5) := B4.out.trans (b5.mono B4.out.size)
  have X5 : Hid (Box4 w5 w.heap.size ⟨aA, nA, cA, aB, nB, cB, aM, nM, cM, aP, nP, cP⟩) := X4.out.below b5
  clear b5 K4 B4 X4
  go_upto_region 4 with fail
  rw [← hw5]
  clear hw5
  obtain ⟨p0, p1, p2, p3⟩ := X5.out
  replace p0 : w5.cell? ⟨w.heap.size, 0, none⟩ = some (.slice aA nA cA) := p0
  replace p1 : w5.cell? ⟨w.heap.size, 1, none⟩ = some (.slice aB nB cB) := p1
  replace p2 : w5.cell? ⟨w.heap.size, 2, none⟩ = some (.slice aM nM cM) := p2
  replace p3 : w5.cell? ⟨w.heap.size, 3, none⟩ = some (.slice aP nP cP) := p3
  have CC := PP.out GB.out w5 B5.out
  go_wp2_with fail
  go_at_call 11
  refine CC.mono ?_
  rintro e w6 ⟨y, rfl, hn, hb⟩
  clear CC p0 p1 p2 p3 PP
  obtain ⟨yA, mA, eA, yB, mB, eB, yM, mM, eM, yP, mP, eP⟩ := y
  have K6 : Hid (Bk w6 ⟨yA, mA, eA, yB, mB, eB, yM, mM, eM, yP, mP, eP⟩ (postR b L)) := hn.bk
  have B56 : Hid (Below w5.heap.size w5 w6) := hb
  clear hn hb
  obtain ⟨w7, hw7⟩ : ∃ w7, w7 = w6.alloc (.cells #[.slice yA mA eA, .slice yB mB eB, .slice yM mM eM, .slice yP mP eP] 26) := ⟨_, rfl⟩
  have b7 : Below w6.heap.size w6 w7 := by rw [hw7]; exact box_below _ _
  have N7 : Hid (Box4 w7 w6.heap.size ⟨yA, mA, eA, yB, mB, eB, yM, mM, eM, yP, mP, eP⟩) := by rw [hw7]; exact Box4.new w6 ⟨yA, mA, eA, yB, mB, eB, yM, mM, eM, yP, mP, eP⟩ _ _
  have K7 : Hid (Bk w7 ⟨yA, mA, eA, yB, mB, eB, yM, mM, eM, yP, mP, eP⟩ (postR b L)) := K6.out.below b7
  have B57 : Hid (Below w5.heap.size w5 w7) := B56.out.trans (b7.mono B56.out.size)
  have B7 : Hid (Below w.heap.size w w7) := B5.out.trans (B57.out.mono B5.out.size)
  have X7 : Hid (Box4 w7 w.heap.size ⟨aA, nA, cA, aB, nB, cB, aM, nM, cM, aP, nP, cP⟩) := X5.out.below B57.out
  clear b7 K6 B56
  go_upto_region 5 with fail
  rw [← hw7]
  clear hw7
  obtain ⟨p0, p1, p2, p3⟩ := X7.out
  replace p0 : w7.cell? ⟨w.heap.size, 0, none⟩ = some (.slice aA nA cA) := p0
  replace p1 : w7.cell? ⟨w.heap.size, 1, none⟩ = some (.slice aB nB cB) := p1
  replace p2 : w7.cell? ⟨w.heap.size, 2, none⟩ = some (.slice aM nM cM) := p2
  replace p3 : w7.cell? ⟨w.heap.size, 3, none⟩ = some (.slice aP nP cP) := p3
  have CC := RP.out GB.out w7 B7.out
  go_wp2_with fail
  go_at_call 12
  refine CC.mono ?_
  rintro e w8 ⟨y, rfl, hn, hb⟩
  clear CC p0 p1 p2 p3 RP
  obtain ⟨vA, lA, dA, vB, lB, dB, vM, lM, dM, vP, lP, dP⟩ := y
  have K8 : Hid (Bk w8 ⟨vA, lA, dA, vB, lB, dB, vM, lM, dM, vP, lP, dP⟩ (postR b L)) := hn
  have B78 : Hid (Below w7.heap.size w7 w8) := hb
  clear hn hb
  obtain ⟨w9, hw9⟩ : ∃ w9, w9 = w8.alloc (.cells #[.slice vA lA dA, .slice vB lB dB, .slice vM lM dM, .slice vP lP dP] 26) := ⟨_, rfl⟩
  have b9 : Below w8.heap.size w8 w9 := by rw [hw9]; exact box_below _ _
  have N9 : Hid (Box4 w9 w8.heap.size ⟨vA, lA, dA, vB, lB, dB, vM, lM, dM, vP, lP, dP⟩) := by rw [hw9]; exact Box4.new w8 ⟨vA, lA, dA, vB, lB, dB, vM, lM, dM, vP, lP, dP⟩ _ _
  have K9 : Hid (Bk w9 ⟨vA, lA, dA, vB, lB, dB, vM, lM, dM, vP, lP, dP⟩ (postR b L)) := K8.out.below b9
  have B79 : Hid (Below w7.heap.size w7 w9) := B78.out.trans (b9.mono B78.out.size)
  have B59 : Hid (Below w5.heap.size w5 w9) := B57.out.trans (B79.out.mono B57.out.size)
  have B9 : Hid (Below w.heap.size w w9) := B7.out.trans (B79.out.mono B7.out.size)
  clear b9 K8 B78
  generalize postE b L = E
  go_upto_region 6 with fail
  rw [← hw9]
  clear hw9
  obtain ⟨p0, p1, p2, p3⟩ := N7.out.below B79.out
  replace p0 : w9.cell? ⟨w6.heap.size, 0, none⟩ = some (.slice yA mA eA) := p0
  replace p1 : w9.cell? ⟨w6.heap.size, 1, none⟩ = some (.slice yB mB eB) := p1
  replace p2 : w9.cell? ⟨w6.heap.size, 2, none⟩ = some (.slice yM mM eM) := p2
  replace p3 : w9.cell? ⟨w6.heap.size, 3, none⟩ = some (.slice yP mP eP) := p3
  obtain ⟨o0, o1, o2, o3⟩ := N9.out
  replace o0 : w9.cell? ⟨w8.heap.size, 0, none⟩ = some (.slice vA lA dA) := o0
  replace o1 : w9.cell? ⟨w8.heap.size, 1, none⟩ = some (.slice vB lB dB) := o1
  replace o2 : w9.cell? ⟨w8.heap.size, 2, none⟩ = some (.slice vM lM dM) := o2
  replace o3 : w9.cell? ⟨w8.heap.size, 3, none⟩ = some (.slice vP lP dP) := o3
  have S := refSame_any ⟨yA, mA, eA, yB, mB, eB, yM, mM, eM, yP, mP, eP⟩ ⟨vA, lA, dA, vB, lB, dB, vM, lM, dM, vP, lP, dP⟩ (postR b L) (postR b L) w9 (K7.out.below B79.out) K9.out
  rw [sameB_self] at S
  go_wp2_with fail
  go_at_call 13
  refine S.mono ?_
  rintro e wa ⟨rfl, hb⟩
  have B5a : Hid (Below w5.heap.size w5 wa) := B59.out.trans (hb.mono B59.out.size)
  have Ba : Hid (Below w.heap.size w wa) := B9.out.trans (hb.mono B9.out.size)
  clear hb S p0 p1 p2 p3 o0 o1 o2 o3
  obtain ⟨p0, p1, p2, p3⟩ := X5.out.below B5a.out
  replace p0 : wa.cell? ⟨w.heap.size, 0, none⟩ = some (.slice aA nA cA) := p0
  replace p1 : wa.cell? ⟨w.heap.size, 1, none⟩ = some (.slice aB nB cB) := p1
  replace p2 : wa.cell? ⟨w.heap.size, 2, none⟩ = some (.slice aM nM cM) := p2
  replace p3 : wa.cell? ⟨w.heap.size, 3, none⟩ = some (.slice aP nP cP) := p3
  obtain ⟨o0, o1, o2, o3⟩ := N5.out.below B5a.out
  replace o0 : wa.cell? ⟨w4.heap.size, 0, none⟩ = some (.slice uA jA kA) := o0
  replace o1 : wa.cell? ⟨w4.heap.size, 1, none⟩ = some (.slice uB jB kB) := o1
  replace o2 : wa.cell? ⟨w4.heap.size, 2, none⟩ = some (.slice uM jM kM) := o2
  replace o3 : wa.cell? ⟨w4.heap.size, 3, none⟩ = some (.slice uP jP kP) := o3
  have S := refSame_any ⟨aA, nA, cA, aB, nB, cB, aM, nM, cM, aP, nP, cP⟩ ⟨uA, jA, kA, uB, jB, kB, uM, jM, kM, uP, jP, kP⟩ b b wa (HBK.out.below Ba.out) (K5.out.below B5a.out)
  rw [sameB_self] at S
  go_wp2_with fail
  go_at_call 13
  refine S.mono ?_
  rintro e wb ⟨rfl, hb⟩
  have Bb : Hid (Below w.heap.size w wb) := Ba.out.trans (hb.mono Ba.out.size)
  clear hb S p0 p1 p2 p3 o0 o1 o2 o3
  go_wp2_with fail
  go_at_call 14
  refine (known16 wb).mono ?_
  rintro e wc ⟨rfl, hb⟩
  have Bc : Hid (Below w.heap.size w wc) := Bb.out.trans (hb.mono Bb.out.size)
  clear hb
  go_wp2
  go_ret
  exact ⟨rfl, Bc.out⟩

end Go.Proofs.Ythpcpbjgihhjeaa
