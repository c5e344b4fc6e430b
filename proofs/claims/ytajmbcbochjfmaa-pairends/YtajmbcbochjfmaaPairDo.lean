/-
  pair: isBack, goTogether, backOf, Next.
-/
import Derived.Test.YtajmbcbochjfmaaPairSpec
import Derived.Test.YtajmbcbochjfmaaFreeDo
import Derived.Test.YtajmbcbochjfmaaRowRefs
namespace Go.Proofs.Ytajmbcbochjfmaa
open Go.RowKit
set_option linter.unusedVariables false
set_option linter.unusedSimpArgs false

set_option maxHeartbeats 4000000 in
theorem isBack_any (p q : P7) (w : World) : Calls Try.prog 44 #[p.val, q.val] w fun e w' => e = .returned (.bool (backB p q)) ∧ Below w.heap.size w w' := by
  obtain ⟨x0, x1, x2, x3, x4, x5, x6⟩ := p
  obtain ⟨y0, y1, y2, y3, y4, y5, y6⟩ := q
  obtain ⟨D1, hD1⟩ : ∃ D, (y1 == x2) = D := ⟨_, rfl⟩
  obtain ⟨D2, hD2⟩ : ∃ D, (y2 == x1) = D := ⟨_, rfl⟩
  obtain ⟨D3, hD3⟩ : ∃ D, decide (x1 < y1) = D := ⟨_, rfl⟩
  have HB : Hid (backB (x0, x1, x2, x3, x4, x5, x6) (y0, y1, y2, y3, y4, y5, y6) = (D1 && (D2 && D3))) := by
    show backB _ _ = _
    rw [← hD1, ← hD2, ← hD3]
    show (decide (y1 = x2) && (decide (y2 = x1) && decide (x1 < y1))) = _
    congr 1
  generalize backB (x0, x1, x2, x3, x4, x5, x6) (y0, y1, y2, y3, y4, y5, y6) = R at HB ⊢
  have hb2 : Below w.heap.size w ((w.alloc (.cells #[.int .i64 x0, .int .i64 x1, .int .i64 x2, .int .i64 x3, .int .i64 x4, .int .i64 x5, .int .i64 x6] 31)).alloc (.cells #[.int .i64 y0, .int .i64 y1, .int .i64 y2, .int .i64 y3, .int .i64 y4, .int .i64 y5, .int .i64 y6] 31)) := (box_below _ _).alloc (box_below _ _).size _
  have HB2 : Hid (Below w.heap.size w ((w.alloc (.cells #[.int .i64 x0, .int .i64 x1, .int .i64 x2, .int .i64 x3, .int .i64 x4, .int .i64 x5, .int .i64 x6] 31)).alloc (.cells #[.int .i64 y0, .int .i64 y1, .int .i64 y2, .int .i64 y3, .int .i64 y4, .int .i64 y5, .int .i64 y6] 31))) := hb2
  clear hb2
  show Calls Try.prog 44 #[.agg #[.int .i64 x0, .int .i64 x1, .int .i64 x2, .int .i64 x3, .int .i64 x4, .int .i64 x5, .int .i64 x6], .agg #[.int .i64 y0, .int .i64 y1, .int .i64 y2, .int .i64 y3, .int .i64 y4, .int .i64 y5, .int .i64 y6]] w _
  cases D1 with
  | false =>
    have HR : Hid (R = false) := HB.out
    go_enter Try.func44, Try.ntmps44
    go_wp2
    go_ret
    exact ⟨by rw [HR.out]; rfl, HB2.out⟩
  | true =>
    cases D2 with
    | false =>
      have HR : Hid (R = false) := HB.out
      go_enter Try.func44, Try.ntmps44
      go_wp2
      go_ret
      exact ⟨by rw [HR.out]; rfl, HB2.out⟩
    | true =>
      have HR : Hid (R = D3) := HB.out
      go_enter Try.func44, Try.ntmps44
      go_wp2
      go_ret
      exact ⟨by rw [HR.out]; rfl, HB2.out⟩

set_option maxHeartbeats 8000000 in
set_option maxRecDepth 100000 in
theorem together_any (x : BA) (b : Bks) (p q : P7) (w : World) (hk : Bk w x b) (gd : Good b) :
    Calls Try.prog 45 #[x.val, p.val, q.val] w fun e w' => e = .returned (.bool (goesB b [p, q])) ∧ Below w.heap.size w w' := by
  have FI : Hid (∀ (a : Option Addr) (c : Nat) u, Below w.heap.size w u → PGood u a 2 c [p, q] → Calls Try.prog 66 #[x.val, .slice a 2 c] u fun e w' => e = .returned (.bool (fitsB b [p, q])) ∧ Below u.heap.size u w') := fun a c u hu hg => fitsFits_any x b a 2 c [p, q] u (hk.below hu) gd hg
  have PO : Hid (∀ (a : Option Addr) (c : Nat) u, Below w.heap.size w u → PGood u a 2 c [p, q] → Calls Try.prog 25 #[x.val, .slice a 2 c] u (PostEnd u b [p, q])) := fun a c u hu hg => post_any x b a 2 c [p, q] u (hk.below hu) gd hg
  have HG : Hid (goesB b [p, q] = (fitsB b [p, q] && decide (postE b [p, q] = 0))) := rfl
  unfold PostEnd at PO
  generalize goesB b [p, q] = R at HG ⊢
  generalize fitsB b [p, q] = F at HG FI
  generalize postE b [p, q] = E at HG PO
  generalize postR b [p, q] = Q at PO
  obtain ⟨x0, x1, x2, x3, x4, x5, x6⟩ := p
  obtain ⟨y0, y1, y2, y3, y4, y5, y6⟩ := q
  obtain ⟨aA, nA, cA, aB, nB, cB, aM, nM, cM, aP, nP, cP⟩ := x
  obtain ⟨w2, hw2⟩ : ∃ w2, w2 = ((w.alloc (.cells #[.slice aA nA cA, .slice aB nB cB, .slice aM nM cM, .slice aP nP cP] 27)).alloc (.cells #[.int .i64 x0, .int .i64 x1, .int .i64 x2, .int .i64 x3, .int .i64 x4, .int .i64 x5, .int .i64 x6] 31)).alloc (.cells #[.int .i64 y0, .int .i64 y1, .int .i64 y2, .int .i64 y3, .int .i64 y4, .int .i64 y5, .int .i64 y6] 31) := ⟨_, rfl⟩
  have b1 : Below w.heap.size w ((w.alloc (.cells #[.slice aA nA cA, .slice aB nB cB, .slice aM nM cM, .slice aP nP cP] 27)).alloc (.cells #[.int .i64 x0, .int .i64 x1, .int .i64 x2, .int .i64 x3, .int .i64 x4, .int .i64 x5, .int .i64 x6] 31)) := (box_below _ _).alloc (box_below _ _).size _
  have B2 : Hid (Below w.heap.size w w2) := by rw [hw2]; exact b1.alloc b1.size _
  have X2 : Hid (Box4 w2 w.heap.size ⟨aA, nA, cA, aB, nB, cB, aM, nM, cM, aP, nP, cP⟩) := by rw [hw2]; exact ((Box4.new w ⟨aA, nA, cA, aB, nB, cB, aM, nM, cM, aP, nP, cP⟩ _ _).below (box_below _ _)).below (box_below _ _)
  have P2 : Hid (PBox w2 (w.heap.size + 1) (x0, x1, x2, x3, x4, x5, x6)) := by
    rw [hw2]
    have := (PBox.new (w.alloc (.cells #[.slice aA nA cA, .slice aB nB cB, .slice aM nM cM, .slice aP nP cP] 27)) (x0, x1, x2, x3, x4, x5, x6)).below (box_below _ (.cells #[.int .i64 y0, .int .i64 y1, .int .i64 y2, .int .i64 y3, .int .i64 y4, .int .i64 y5, .int .i64 y6] 31))
    rw [size_alloc] at this
    exact this
  have Q2 : Hid (PBox w2 (w.heap.size + 2) (y0, y1, y2, y3, y4, y5, y6)) := by
    rw [hw2]
    have := PBox.new ((w.alloc (.cells #[.slice aA nA cA, .slice aB nB cB, .slice aM nM cM, .slice aP nP cP] 27)).alloc (.cells #[.int .i64 x0, .int .i64 x1, .int .i64 x2, .int .i64 x3, .int .i64 x4, .int .i64 x5, .int .i64 x6] 31)) (y0, y1, y2, y3, y4, y5, y6)
    rw [size_alloc, size_alloc] at this
    exact this
  clear hk gd b1
  show Calls Try.prog 45 #[.agg #[.slice aA nA cA, .slice aB nB cB, .slice aM nM cM, .slice aP nP cP], .agg #[.int .i64 x0, .int .i64 x1, .int .i64 x2, .int .i64 x3, .int .i64 x4, .int .i64 x5, .int .i64 x6], .agg #[.int .i64 y0, .int .i64 y1, .int .i64 y2, .int .i64 y3, .int .i64 y4, .int .i64 y5, .int .i64 y6]] w _
  go_enter Try.func45, Try.ntmps45
  go_upto_region 1 with fail
  rw [← hw2]
  clear hw2
  have CC := FI.out (some ⟨w2.heap.size, 0, none⟩) 2 _ (B2.out.trans ((box_below w2 _).mono B2.out.size)) (PGood.lit2 w2 (x0, x1, x2, x3, x4, x5, x6) (y0, y1, y2, y3, y4, y5, y6))
  obtain ⟨p0, p1, p2, p3⟩ := X2.out
  replace p0 : w2.cell? ⟨w.heap.size, 0, none⟩ = some (.slice aA nA cA) := p0
  replace p1 : w2.cell? ⟨w.heap.size, 1, none⟩ = some (.slice aB nB cB) := p1
  replace p2 : w2.cell? ⟨w.heap.size, 2, none⟩ = some (.slice aM nM cM) := p2
  replace p3 : w2.cell? ⟨w.heap.size, 3, none⟩ = some (.slice aP nP cP) := p3
  obtain ⟨r0, r1, r2, r3, r4, r5, r6⟩ := P2.out.at7
  simp only [P7.id, P7.fr, P7.to, P7.am, P7.cl, P7.st, P7.ti, Nat.zero_add] at r0 r1 r2 r3 r4 r5 r6
  obtain ⟨s0, s1, s2, s3, s4, s5, s6⟩ := Q2.out.at7
  simp only [P7.id, P7.fr, P7.to, P7.am, P7.cl, P7.st, P7.ti, Nat.zero_add] at s0 s1 s2 s3 s4 s5 s6
  clear FI
  go_wp2_with fail
  go_at_call 66
  refine CC.mono ?_
  rintro e w3 ⟨rfl, hb⟩
  have b23 : Below w2.heap.size w2 w3 := (box_below _ _).trans (hb.mono (by rw [size_alloc]; omega))
  have B3 : Hid (Below w.heap.size w w3) := B2.out.trans (b23.mono B2.out.size)
  have X3 : Hid (Box4 w3 w.heap.size ⟨aA, nA, cA, aB, nB, cB, aM, nM, cM, aP, nP, cP⟩) := X2.out.below b23
  have P3 : Hid (PBox w3 (w.heap.size + 1) (x0, x1, x2, x3, x4, x5, x6)) := P2.out.below b23
  have Q3 : Hid (PBox w3 (w.heap.size + 2) (y0, y1, y2, y3, y4, y5, y6)) := Q2.out.below b23
  clear CC hb b23 p0 p1 p2 p3 r0 r1 r2 r3 r4 r5 r6 s0 s1 s2 s3 s4 s5 s6 X2 P2 Q2 B2
  cases F with
  | false =>
    have RR : Hid (R = false) := by show R = false; rw [HG.out]; rfl
    go_wp2
    go_ret
    exact ⟨by rw [RR.out]; rfl, B3.out⟩
  | true =>
    have RR : Hid (R = decide (E = 0)) := by show R = _; rw [HG.out]; rfl
    have CC := PO.out (some ⟨w3.heap.size, 0, none⟩) 2 _ (B3.out.trans ((box_below w3 _).mono B3.out.size)) (PGood.lit2 w3 (x0, x1, x2, x3, x4, x5, x6) (y0, y1, y2, y3, y4, y5, y6))
    obtain ⟨p0, p1, p2, p3⟩ := X3.out
    replace p0 : w3.cell? ⟨w.heap.size, 0, none⟩ = some (.slice aA nA cA) := p0
    replace p1 : w3.cell? ⟨w.heap.size, 1, none⟩ = some (.slice aB nB cB) := p1
    replace p2 : w3.cell? ⟨w.heap.size, 2, none⟩ = some (.slice aM nM cM) := p2
    replace p3 : w3.cell? ⟨w.heap.size, 3, none⟩ = some (.slice aP nP cP) := p3
    obtain ⟨r0, r1, r2, r3, r4, r5, r6⟩ := P3.out.at7
    simp only [P7.id, P7.fr, P7.to, P7.am, P7.cl, P7.st, P7.ti, Nat.zero_add] at r0 r1 r2 r3 r4 r5 r6
    obtain ⟨s0, s1, s2, s3, s4, s5, s6⟩ := Q3.out.at7
    simp only [P7.id, P7.fr, P7.to, P7.am, P7.cl, P7.st, P7.ti, Nat.zero_add] at s0 s1 s2 s3 s4 s5 s6
    clear PO HG
    go_wp2_with fail
    go_at_call 25
    refine CC.mono ?_
    rintro e w4 ⟨y, rfl, -, hb⟩
    obtain ⟨yA, mA, eA, yB, mB, eB, yM, mM, eM, yP, mP, eP⟩ := y
    have B4 : Hid (Below w.heap.size w w4) := B3.out.trans (((box_below _ _).trans (hb.mono (by rw [size_alloc]; omega))).mono B3.out.size)
    have B5 : Hid (∀ x, Below w.heap.size w (w4.alloc x)) := fun x => B4.out.alloc B4.out.size _
    clear CC hb p0 p1 p2 p3 r0 r1 r2 r3 r4 r5 r6 s0 s1 s2 s3 s4 s5 s6 X3 P3 Q3 B3
    obtain ⟨D, hD⟩ : ∃ D, (E == 0) = D := ⟨_, rfl⟩
    have RD : Hid (R = D) := by show R = D; rw [RR.out, ← hD]; rfl
    clear RR
    go_wp2
    go_ret
    exact ⟨by rw [RD.out]; rfl, B5.out _⟩

set_option maxHeartbeats 16000000 in
set_option maxRecDepth 100000 in
theorem backOf_any (x : BA) (b : Bks) (a : Option Addr) (n c : Nat) (M : List P7) (p : P7) (w : World) (hk : Bk w x b) (gd : Good b) (h : PGood w a n c M) (hm : n ≤ 100000) :
    Calls Try.prog 22 #[x.val, .slice a n c, p.val] w fun e w' => e = .returned (.tuple #[((firstQ b M p).getD p70).val, .bool (firstQ b M p).isSome]) ∧ Below w.heap.size w w' := by
  have IB := fun (q : P7) u => isBack_any p q u
  have TG := fun (q : P7) u (hu : Below w.heap.size w u) => together_any x b p q u (hk.below hu) gd
  have HFIND : Hid (∀ k, k < M.length → (∀ j, j < k → isPair b p (M.getD j p70) = false) → isPair b p (M.getD k p70) = true → firstQ b M p = some (M.getD k p70)) := fun k h1 h2 h3 => find_here (f := isPair b p) h1 h2 h3
  have HNONE : Hid ((∀ j, j < M.length → isPair b p (M.getD j p70) = false) → firstQ b M p = none) := fun h => find_nothing (f := isPair b p) (d := p70) h
  have hml := h.len
  rw [← hml] at HFIND HNONE
  have HLM : Hid (n = M.length) := hml
  generalize firstQ b M p = N at HFIND HNONE ⊢
  clear hml
  have HIS : Hid (∀ q, isPair b p q = (backB p q && goesB b [p, q])) := fun q => rfl
  obtain ⟨x0, x1, x2, x3, x4, x5, x6⟩ := p
  obtain ⟨aA, nA, cA, aB, nB, cB, aM, nM, cM, aP, nP, cP⟩ := x
  obtain ⟨w2, hw2⟩ : ∃ w2, w2 = ((w.alloc (.cells #[.slice aA nA cA, .slice aB nB cB, .slice aM nM cM, .slice aP nP cP] 27)).alloc (.cells #[.int .i64 x0, .int .i64 x1, .int .i64 x2, .int .i64 x3, .int .i64 x4, .int .i64 x5, .int .i64 x6] 31)).alloc (.cells #[.int .i64 0, .int .i64 0, .int .i64 0, .int .i64 0, .int .i64 0, .int .i64 0, .int .i64 0] 31) := ⟨_, rfl⟩
  have b1 : Below w.heap.size w ((w.alloc (.cells #[.slice aA nA cA, .slice aB nB cB, .slice aM nM cM, .slice aP nP cP] 27)).alloc (.cells #[.int .i64 x0, .int .i64 x1, .int .i64 x2, .int .i64 x3, .int .i64 x4, .int .i64 x5, .int .i64 x6] 31)) := (box_below _ _).alloc (box_below _ _).size _
  have B2 : Hid (Below w.heap.size w w2) := by rw [hw2]; exact b1.alloc b1.size _
  have X2 : Hid (Box4 w2 w.heap.size ⟨aA, nA, cA, aB, nB, cB, aM, nM, cM, aP, nP, cP⟩) := by rw [hw2]; exact ((Box4.new w ⟨aA, nA, cA, aB, nB, cB, aM, nM, cM, aP, nP, cP⟩ _ _).below (box_below _ _)).below (box_below _ _)
  have P2 : Hid (PBox w2 (w.heap.size + 1) (x0, x1, x2, x3, x4, x5, x6)) := by
    rw [hw2]
    have := (PBox.new (w.alloc (.cells #[.slice aA nA cA, .slice aB nB cB, .slice aM nM cM, .slice aP nP cP] 27)) (x0, x1, x2, x3, x4, x5, x6)).below (box_below _ (.cells #[.int .i64 0, .int .i64 0, .int .i64 0, .int .i64 0, .int .i64 0, .int .i64 0, .int .i64 0] 31))
    rw [size_alloc] at this
    exact this
  have Q2 : Hid (PBox w2 (w.heap.size + 2) p70) := by
    rw [hw2]
    have := PBox.new ((w.alloc (.cells #[.slice aA nA cA, .slice aB nB cB, .slice aM nM cM, .slice aP nP cP] 27)).alloc (.cells #[.int .i64 x0, .int .i64 x1, .int .i64 x2, .int .i64 x3, .int .i64 x4, .int .i64 x5, .int .i64 x6] 31)) p70
    rw [size_alloc, size_alloc] at this
    exact this
  have G2 : Hid (PGood w2 a n c M) := h.below B2.out
  have IBT : Hid (∀ (z0 z1 z2 z3 z4 z5 z6 : Int) u, Calls Try.prog 44 #[.agg #[.int .i64 x0, .int .i64 x1, .int .i64 x2, .int .i64 x3, .int .i64 x4, .int .i64 x5, .int .i64 x6], .agg #[.int .i64 z0, .int .i64 z1, .int .i64 z2, .int .i64 z3, .int .i64 z4, .int .i64 z5, .int .i64 z6]] u fun e w' => e = .returned (.bool (backB (x0, x1, x2, x3, x4, x5, x6) (z0, z1, z2, z3, z4, z5, z6))) ∧ Below u.heap.size u w') := fun z0 z1 z2 z3 z4 z5 z6 u => IB (z0, z1, z2, z3, z4, z5, z6) u
  have TGT : Hid (∀ (z0 z1 z2 z3 z4 z5 z6 : Int) u, Below w.heap.size w u → Calls Try.prog 45 #[.agg #[.slice aA nA cA, .slice aB nB cB, .slice aM nM cM, .slice aP nP cP], .agg #[.int .i64 x0, .int .i64 x1, .int .i64 x2, .int .i64 x3, .int .i64 x4, .int .i64 x5, .int .i64 x6], .agg #[.int .i64 z0, .int .i64 z1, .int .i64 z2, .int .i64 z3, .int .i64 z4, .int .i64 z5, .int .i64 z6]] u fun e w' => e = .returned (.bool (goesB b [(x0, x1, x2, x3, x4, x5, x6), (z0, z1, z2, z3, z4, z5, z6)])) ∧ Below u.heap.size u w') := fun z0 z1 z2 z3 z4 z5 z6 => TG (z0, z1, z2, z3, z4, z5, z6)
  have HMX : Hid (n ≤ 100000) := hm
  clear hk gd h hm IB TG b1
  show Calls Try.prog 22 #[.agg #[.slice aA nA cA, .slice aB nB cB, .slice aM nM cM, .slice aP nP cP], .slice a n c, .agg #[.int .i64 x0, .int .i64 x1, .int .i64 x2, .int .i64 x3, .int .i64 x4, .int .i64 x5, .int .i64 x6]] w _
  go_enter Try.func22, Try.ntmps22
  go_upto_region 1 with fail
  rw [← hw2]
  clear hw2
  go_wp2
  go_loopw [12] (fun i wr => ∃ k : Nat, k ≤ n ∧ i = .int .i64 k ∧ Hid (∀ j, j < k → isPair b (x0, x1, x2, x3, x4, x5, x6) (M.getD j p70) = false) ∧ Hid (Below w2.heap.size w2 wr)) (fun i _ => n - (intOf i).toNat)
  case atStart => exact ⟨0, by omega, rfl, fun j hj => by omega, Below.refl _ _⟩
  case round =>
    obtain ⟨k, hk, rfl, HNO, HB⟩ := hrel
    have BW : Hid (Below w.heap.size w wr) := B2.out.trans (HB.out.mono B2.out.size)
    have m63 := HMX.out
    by_cases hlt : k < n
    · have k1 : (k : Int) < (n : Int) := by omega
      obtain ⟨b1, off, rfl, HC⟩ := G2.out.at hlt
      have C0 : Hid (At7 wr b1 (off + k * 7) (M.getD k p70)) := (HC k hlt).below HB.out
      have HF := HFIND.out k hlt HNO.out
      have HS : Hid (isPair b (x0, x1, x2, x3, x4, x5, x6) (M.getD k p70) = false → ∀ j, j < k + 1 → isPair b (x0, x1, x2, x3, x4, x5, x6) (M.getD j p70) = false) := fun h j hj => by
        by_cases hjk : j < k
        · exact HNO.out j hjk
        · obtain rfl : j = k := by omega
          exact h
      generalize M.getD k p70 = y at C0 HF HS
      obtain ⟨y0, y1, y2, y3, y4, y5, y6⟩ := y
      obtain ⟨w4, hw4⟩ : ∃ w4, w4 = wr.alloc (.cells #[.int .i64 y0, .int .i64 y1, .int .i64 y2, .int .i64 y3, .int .i64 y4, .int .i64 y5, .int .i64 y6] 31) := ⟨_, rfl⟩
      obtain ⟨g, hg⟩ : ∃ g, wr.heap.size = g := ⟨_, rfl⟩
      have b4 : Below wr.heap.size wr w4 := by rw [hw4]; exact box_below _ _
      have P4 : Hid (PBox w4 g (y0, y1, y2, y3, y4, y5, y6)) := by rw [hw4, ← hg]; exact PBox.new wr (y0, y1, y2, y3, y4, y5, y6)
      have B4 : Hid (Below w.heap.size w w4) := BW.out.trans (b4.mono BW.out.size)
      have BB4 : Hid (Below w2.heap.size w2 w4) := HB.out.trans (b4.mono HB.out.size)
      obtain ⟨z0, z1, z2, z3, z4, z5, z6⟩ := C0.out
      simp only [P7.id, P7.fr, P7.to, P7.am, P7.cl, P7.st, P7.ti, Nat.zero_add] at z0 z1 z2 z3 z4 z5 z6
      clear b4 BW HB C0
      go_upto_region 4 with fail
      rw [← hw4]
      clear hw4 z0 z1 z2 z3 z4 z5 z6
      try rw [hg]
      clear hg
      have CI := IBT.out y0 y1 y2 y3 y4 y5 y6 w4
      have CT := fun u (hu : Below w4.heap.size w4 u) => TGT.out y0 y1 y2 y3 y4 y5 y6 u (B4.out.trans (hu.mono B4.out.size))
      have HIY := HIS.out (y0, y1, y2, y3, y4, y5, y6)
      obtain ⟨q, hq⟩ : ∃ q, isPair b (x0, x1, x2, x3, x4, x5, x6) (y0, y1, y2, y3, y4, y5, y6) = q := ⟨_, rfl⟩
      rw [hq] at HF HS HIY
      have HFF : Hid (q = true → N = some (y0, y1, y2, y3, y4, y5, y6)) := HF
      clear hq HF
      generalize backB (x0, x1, x2, x3, x4, x5, x6) (y0, y1, y2, y3, y4, y5, y6) = q1 at CI HIY
      generalize goesB b [(x0, x1, x2, x3, x4, x5, x6), (y0, y1, y2, y3, y4, y5, y6)] = q2 at CT HIY
      have HIQ : Hid (q = (q1 && q2)) := HIY
      have CTT : Hid (∀ u, Below w4.heap.size w4 u → Calls Try.prog 45 #[.agg #[.slice aA nA cA, .slice aB nB cB, .slice aM nM cM, .slice aP nP cP], .agg #[.int .i64 x0, .int .i64 x1, .int .i64 x2, .int .i64 x3, .int .i64 x4, .int .i64 x5, .int .i64 x6], .agg #[.int .i64 y0, .int .i64 y1, .int .i64 y2, .int .i64 y3, .int .i64 y4, .int .i64 y5, .int .i64 y6]] u fun e w' => e = .returned (.bool q2) ∧ Below u.heap.size u w') := CT
      clear HIY CT
      have Y4 : Hid (PBox w4 (w.heap.size + 1) (x0, x1, x2, x3, x4, x5, x6)) := P2.out.below BB4.out
      obtain ⟨r0, r1, r2, r3, r4, r5, r6⟩ := P4.out.at7
      simp only [P7.id, P7.fr, P7.to, P7.am, P7.cl, P7.st, P7.ti, Nat.zero_add] at r0 r1 r2 r3 r4 r5 r6
      obtain ⟨s0, s1, s2, s3, s4, s5, s6⟩ := Y4.out.at7
      simp only [P7.id, P7.fr, P7.to, P7.am, P7.cl, P7.st, P7.ti, Nat.zero_add] at s0 s1 s2 s3 s4 s5 s6
      go_wp2_with fail
      go_at_call 44
      refine CI.mono ?_
      rintro e w5 ⟨rfl, hb⟩
      have b45 : Hid (Below w4.heap.size w4 w5) := hb
      clear CI hb r0 r1 r2 r3 r4 r5 r6 s0 s1 s2 s3 s4 s5 s6 Y4
      cases q1 with
      | false =>
        have hq : q = false := HIQ.out
        subst hq
        obtain ⟨w6, rfl⟩ : ∃ z, z = w5 := ⟨w5, rfl⟩
        have BB6 : Hid (Below w2.heap.size w2 w6) := BB4.out.trans (b45.out.mono BB4.out.size)
        clear P4 B4 BB4 b45 CTT HIQ
        have HN2 : Hid (∀ j, j < k + 1 → isPair b (x0, x1, x2, x3, x4, x5, x6) (M.getD j p70) = false) := HS.out rfl
        have kw : IntKind.i64.wrap ((k : Int) + 1) = k + 1 := i64_wf (by omega) (by omega)
        clear HS HFF HNO
        go_wp2
        go_roundw
        case rel => exact ⟨k + 1, by omega, by go_num, HN2, BB6⟩
        case measure => simp [intOf]; omega
      | true =>
        have hq : Hid (q = q2) := HIQ.out
        have CC := CTT.out w5 b45.out
        have Y4 : Hid (PBox w5 (w.heap.size + 1) (x0, x1, x2, x3, x4, x5, x6)) := P2.out.below (BB4.out.trans (b45.out.mono BB4.out.size))
        have P5 : Hid (PBox w5 g (y0, y1, y2, y3, y4, y5, y6)) := P4.out.below b45.out
        obtain ⟨r0, r1, r2, r3, r4, r5, r6⟩ := P5.out.at7
        simp only [P7.id, P7.fr, P7.to, P7.am, P7.cl, P7.st, P7.ti, Nat.zero_add] at r0 r1 r2 r3 r4 r5 r6
        obtain ⟨s0, s1, s2, s3, s4, s5, s6⟩ := Y4.out.at7
        simp only [P7.id, P7.fr, P7.to, P7.am, P7.cl, P7.st, P7.ti, Nat.zero_add] at s0 s1 s2 s3 s4 s5 s6
        obtain ⟨p0, p1, p2, p3⟩ := X2.out.below (BB4.out.trans (b45.out.mono BB4.out.size))
        replace p0 : w5.cell? ⟨w.heap.size, 0, none⟩ = some (.slice aA nA cA) := p0
        replace p1 : w5.cell? ⟨w.heap.size, 1, none⟩ = some (.slice aB nB cB) := p1
        replace p2 : w5.cell? ⟨w.heap.size, 2, none⟩ = some (.slice aM nM cM) := p2
        replace p3 : w5.cell? ⟨w.heap.size, 3, none⟩ = some (.slice aP nP cP) := p3
        go_wp2_with fail
        go_at_call 45
        refine CC.mono ?_
        rintro e w6 ⟨rfl, hb⟩
        have b46 : Hid (Below w4.heap.size w4 w6) := b45.out.trans (hb.mono b45.out.size)
        clear CC hb r0 r1 r2 r3 r4 r5 r6 s0 s1 s2 s3 s4 s5 s6 p0 p1 p2 p3 Y4 P5
        have hq := hq.out
        subst hq
        have B6 : Hid (Below w.heap.size w w6) := B4.out.trans (b46.out.mono B4.out.size)
        have BB6 : Hid (Below w2.heap.size w2 w6) := BB4.out.trans (b46.out.mono BB4.out.size)
        have P6 : Hid (PBox w6 (w.heap.size + 2) p70) := Q2.out.below BB6.out
        have C6 : Hid (PBox w6 g (y0, y1, y2, y3, y4, y5, y6)) := P4.out.below b46.out
        clear P4 B4 BB4 b45 b46 CTT HIQ
        cases q with
        | true =>
          have hn : N = some (y0, y1, y2, y3, y4, y5, y6) := HFF.out rfl
          have RR : Hid (N = some (y0, y1, y2, y3, y4, y5, y6) ∧ Below w.heap.size w (w6.setRow (w.heap.size + 2) #[.int .i64 y0, .int .i64 y1, .int .i64 y2, .int .i64 y3, .int .i64 y4, .int .i64 y5, .int .i64 y6])) := ⟨hn, Below.setRow B6.out (by omega) _⟩
          have Y : Hid (PBox (w6.setRow (w.heap.size + 2) #[.int .i64 y0, .int .i64 y1, .int .i64 y2, .int .i64 y3, .int .i64 y4, .int .i64 y5, .int .i64 y6]) (w.heap.size + 2) (y0, y1, y2, y3, y4, y5, y6)) := P6.out.set (y0, y1, y2, y3, y4, y5, y6)
          obtain ⟨r0, r1, r2, r3, r4, r5, r6⟩ := C6.out.at7
          simp only [P7.id, P7.fr, P7.to, P7.am, P7.cl, P7.st, P7.ti, Nat.zero_add] at r0 r1 r2 r3 r4 r5 r6
          clear hn HFF HS HNO
          go_wp2_with (refine store_pay rfl _ _ rfl (w.heap.size + 2) (y0, y1, y2, y3, y4, y5, y6) rfl rfl p70 P6.out ?_)
          simp only [P7.id, P7.fr, P7.to, P7.am, P7.cl, P7.st, P7.ti]
          clear r0 r1 r2 r3 r4 r5 r6 P6
          generalize w6.setRow (w.heap.size + 2) #[.int .i64 y0, .int .i64 y1, .int .i64 y2, .int .i64 y3, .int .i64 y4, .int .i64 y5, .int .i64 y6] = wf at RR Y ⊢
          obtain ⟨d0, d1, d2, d3, d4, d5, d6⟩ := Y.out.at7
          go_wp2
          exact bodyPost_ret (v := .tuple #[.agg #[.int .i64 y0, .int .i64 y1, .int .i64 y2, .int .i64 y3, .int .i64 y4, .int .i64 y5, .int .i64 y6], .bool true]) (by simp [results, Try.results22, d0, d1, d2, d3, d4, d5, d6, go_sem]) rfl ⟨by rw [RR.out.1]; rfl, RR.out.2⟩
        | false =>
          clear C6 P6 B6
          have HN2 : Hid (∀ j, j < k + 1 → isPair b (x0, x1, x2, x3, x4, x5, x6) (M.getD j p70) = false) := HS.out rfl
          have kw : IntKind.i64.wrap ((k : Int) + 1) = k + 1 := i64_wf (by omega) (by omega)
          clear HS HFF HNO
          go_wp2
          go_roundw
          case rel => exact ⟨k + 1, by omega, by go_num, HN2, BB6⟩
          case measure => simp [intOf]; omega
    · obtain rfl : k = n := by omega
      have hn : N = none := HNONE.out HNO.out
      have PR : Hid (PBox wr (w.heap.size + 2) p70) := Q2.out.below HB.out
      have RR : Hid (N = none ∧ Below w.heap.size w (wr.setRow (w.heap.size + 2) #[.int .i64 0, .int .i64 0, .int .i64 0, .int .i64 0, .int .i64 0, .int .i64 0, .int .i64 0])) := ⟨hn, Below.setRow BW.out (by omega) _⟩
      have Y : Hid (PBox (wr.setRow (w.heap.size + 2) #[.int .i64 0, .int .i64 0, .int .i64 0, .int .i64 0, .int .i64 0, .int .i64 0, .int .i64 0]) (w.heap.size + 2) p70) := PR.out.set p70
      clear hn HNO BW HB
      go_wp2_with (refine store_pay rfl _ _ rfl (w.heap.size + 2) p70 rfl rfl p70 PR.out ?_)
      clear PR
      show _
      generalize hwf : wr.setRow (w.heap.size + 2) #[.int .i64 0, .int .i64 0, .int .i64 0, .int .i64 0, .int .i64 0, .int .i64 0, .int .i64 0] = wf at RR Y
      have e70 : wr.setRow (w.heap.size + 2) #[.int .i64 p70.id, .int .i64 p70.fr, .int .i64 p70.to, .int .i64 p70.am, .int .i64 p70.cl, .int .i64 p70.st, .int .i64 p70.ti] = wf := hwf
      rw [e70]
      clear hwf e70
      obtain ⟨d0, d1, d2, d3, d4, d5, d6⟩ := Y.out.at7
      simp only [p70, P7.id, P7.fr, P7.to, P7.am, P7.cl, P7.st, P7.ti] at d0 d1 d2 d3 d4 d5 d6
      go_wp2
      exact bodyPost_ret (v := .tuple #[.agg #[.int .i64 0, .int .i64 0, .int .i64 0, .int .i64 0, .int .i64 0, .int .i64 0, .int .i64 0], .bool false]) (by simp [results, Try.results22, d0, d1, d2, d3, d4, d5, d6, go_sem]) rfl ⟨by rw [RR.out.1]; rfl, RR.out.2⟩

end Go.Proofs.Ytajmbcbochjfmaa
