/-
  The walk of PairEnds.
-/
import Derived.Test.YtajmbcbochjfmaaFreeX
import Derived.Test.YtajmbcbochjfmaaPairRun
import Derived.Test.YtajmbcbochjfmaaPairRefRun
import Derived.Test.YtajmbcbochjfmaaKnown19
import Derived.Test.YtajmbcbochjfmaaRowRefs
import Derived.Test.YtajmbcbochjfmaaViewAll
import Derived.Test.YtajmbcbochjfmaaRowBase
import Derived.Test.YtajmbcbochjfmaaFactsLate
import Derived.Test.YtajmbcbochjfmaaLimOne
import Derived.Deep.CutRange
namespace Go.Proofs.Ytajmbcbochjfmaa
open Go.RowKit
set_option linter.unusedVariables false
set_option linter.unusedSimpArgs false

/-- Two of a row at a place. -/
theorem two_at {L r : List P7} {k : Nat} {p q : P7} (h : L.drop k = p :: q :: r) : k + 1 < L.length ∧ L.getD k p70 = p ∧ L.getD (k + 1) p70 = q ∧ (L.drop k).take 2 = [p, q] ∧ L.drop (k + 2) = r := by
  have hl : (L.drop k).length = r.length + 2 := by rw [h]; rfl
  rw [List.length_drop] at hl
  have e0 : (L.drop k)[0]? = some p := by rw [h]; rfl
  have e1 : (L.drop k)[1]? = some q := by rw [h]; rfl
  rw [List.getElem?_drop] at e0 e1
  refine ⟨by omega, ?_, ?_, by rw [h]; rfl, ?_⟩
  · rw [List.getD_eq_getElem?_getD]; simpa using congrArg (fun o => o.getD p70) e0
  · rw [List.getD_eq_getElem?_getD]; simpa using congrArg (fun o => o.getD p70) e1
  · rw [← List.drop_drop, h]; rfl
theorem gone_find {l : List P7} {x : Int} (h : qHas l x = false) : decide (0 ≤ qFind l x) = false := by
  have h1 := qFind_neg (l := l) (x := x)
  rw [h] at h1
  have h1 : decide (qFind l x < 0) = true := h1
  rw [decide_eq_true_eq] at h1
  rw [decide_eq_false_iff_not]
  omega

set_option maxHeartbeats 16000000 in
set_option maxRecDepth 100000 in
theorem Walk.pairEnds (ah : Option Addr) (nh ch : Nat) (zh : List Int) (way : Int) (a : Option Addr) (n c : Nat) (L : List P7) (t : Int) (w : World) (h0 : Walk.IsRow .i64 w ah nh ch zh) (hway : (Lit.int .i64 way).wf = true) (hp : PaysIn w a n c L) (htw : (Lit.int .i64 t).wf = true) :
    Calls Try.prog 4 #[.slice ah nh ch, .int .i64 way, .slice a n c, .int .i64 t] w fun e w' => e = .returned (.bool true) ∧ Below w.heap.size w w' := by
  rcases Nat.lt_or_ge 30 n with h30 | h30
  · have h1 : (30 : Int) < (n : Int) := by omega
    clear h0 hway hp h30 htw
    go_enter Try.func4, Try.ntmps4
    go_wp2
    go_ret
    exact ⟨rfl, Below.refl _ _⟩
  have h1 : (n : Int) ≤ 30 := by omega
  obtain ⟨hsl, hcap, hmax⟩ := h0.sl fun n hn => by
    simp only [Lit.wf, Bool.and_eq_true, decide_eq_true_eq] at hn
    exact i64_wf hn.1 hn.2
  have S := some_any ah nh ch (zh.take nh) way w hsl (by omega)
  obtain ⟨kb, hkb⟩ : ∃ kb, someK (zh.take nh) (bitB way 1) (bitB way 2) (bitB way 4) = kb := ⟨_, rfl⟩
  rw [hkb] at S
  have GB : Hid (Good kb) := by rw [← hkb]; exact good_some _ _ _ _
  have HG : Hid (PGood w a n c L) := hp.good
  have HL : Hid (n = L.length) := hp.good.len
  obtain ⟨hq, hlen, hall⟩ := rowed_ok (L := L) (by have := HL.out; omega)
  have HR : Hid ((rowedL L).length = n) := by show _ = _; rw [hlen, HL.out]
  have HQ : Hid (Que (rowedL L) ∧ FrOk (rowedL L)) := ⟨hq, RowedP.fr_ok hall⟩
  have RW := fun u (hu : Below w.heap.size w u) => rowed_any a n c L u (HG.out.below hu) (by omega)
  have KN : Hid (∀ u, Calls Try.prog 14 #[] u fun e w' => e = .returned (.bool true) ∧ Below u.heap.size u w') := known19 runQ_as
  clear hkb hsl h0 hlen hp hway htw hall hq
  go_enter Try.func4, Try.ntmps4
  go_wp2_with fail
  go_at_call 7
  refine S.mono ?_
  rintro e w1 ⟨yb, rfl, nb, bel⟩
  have B1 : Hid (Below w.heap.size w w1) := bel
  have N1 : Hid (Bk w1 yb kb) := nb.bk
  have R := RW w1 bel
  clear S nb bel RW
  go_wp2_with fail
  go_at_call 8
  refine R.mono ?_
  rintro e w2 ⟨ar, cr, rfl, gr, hb⟩
  have BW2 : Hid (Below w.heap.size w w2) := B1.out.trans (hb.mono B1.out.size)
  have N2 : Hid (Bk w2 yb kb) := N1.out.below hb
  have G2 : Hid (PGood w2 ar n cr (rowedL L)) := by rw [← HR.out]; exact gr
  rw [HR.out]
  clear hb R N1 B1 gr
  obtain ⟨aA, nA, cA, aB, nB, cB, aM, nM, cM, aP, nP, cP⟩ := yb
  obtain ⟨w3, hw3⟩ : ∃ w3, w3 = w2.alloc (.cells #[.slice aA nA cA, .slice aB nB cB, .slice aM nM cM, .slice aP nP cP] 27) := ⟨_, rfl⟩
  obtain ⟨z, hz⟩ : ∃ z, w2.heap.size = z := ⟨_, rfl⟩
  have BW3 : Hid (Below w.heap.size w w3) := by rw [hw3]; exact BW2.out.alloc BW2.out.size _
  have X3 : Hid (Box4 w3 z ⟨aA, nA, cA, aB, nB, cB, aM, nM, cM, aP, nP, cP⟩) := by rw [hw3, ← hz]; exact Box4.new w2 ⟨aA, nA, cA, aB, nB, cB, aM, nM, cM, aP, nP, cP⟩ _ _
  have N3 : Hid (Bk w3 ⟨aA, nA, cA, aB, nB, cB, aM, nM, cM, aP, nP, cP⟩ kb) := by rw [hw3]; exact N2.out.below (box_below _ _)
  have G3 : Hid (PGood w3 ar n cr (rowedL L)) := by rw [hw3]; exact G2.out.below (box_below _ _)
  clear N2 G2 BW2
  have CC := runQ_any ⟨aA, nA, cA, aB, nB, cB, aM, nM, cM, aP, nP, cP⟩ kb ar n cr _ t w3 N3.out GB.out G3.out HQ.out.1 HQ.out.2
  obtain ⟨D, HRS⟩ : ∃ D, Hid (stepsQ kb (rowedL L) t D ∧ endQ kb D = (runQ kb (rowedL L) t).1 ∧ endQL (rowedL L) D = (runQ kb (rowedL L) t).2.1 ∧ flatQ D = (runQ kb (rowedL L) t).2.2) := by
    obtain ⟨d, h1, h2⟩ := runQ_leads kb t HQ.out.1
    exact ⟨d, h1, by rw [h2], by rw [h2], by rw [h2]; rfl⟩
  have HLN : Hid ((runQ kb (rowedL L) t).2.1.length + 2 * D.length = n ∧ (runQ kb (rowedL L) t).2.2.length = 2 * D.length) := by
    obtain ⟨h1, h2, h3, h4⟩ := HRS.out
    refine ⟨?_, by rw [← h4]; exact flatQ_len D⟩
    rw [← h3, ← HR.out]
    exact stepsQ_len D kb _ t HQ.out.1 h1
  have HQ1 : Hid (Que (rowedL L)) := HQ.out.1
  generalize runQ kb (rowedL L) t = R at CC HRS HLN
  generalize rowedL L = rl at HQ1 G3 HRS
  clear HR HG HL HQ
  go_upto_region 4 with fail
  rw [← hw3]
  clear hw3
  try rw [hz]
  clear hz
  obtain ⟨p0, p1, p2, p3⟩ := X3.out
  replace p0 : w3.cell? ⟨z, 0, none⟩ = some (.slice aA nA cA) := p0
  replace p1 : w3.cell? ⟨z, 1, none⟩ = some (.slice aB nB cB) := p1
  replace p2 : w3.cell? ⟨z, 2, none⟩ = some (.slice aM nM cM) := p2
  replace p3 : w3.cell? ⟨z, 3, none⟩ = some (.slice aP nP cP) := p3
  go_wp2_with fail
  go_at_call 11
  refine CC.mono ?_
  rintro e w4 ⟨y, al, nl, cl, ad, nd, cd, rfl, bk, gR, gl, qR, gd, h40, hb⟩
  obtain ⟨yA, mA, eA, yB, mB, eB, yM, mM, eM, yP, mP, eP⟩ := y
  obtain ⟨w5, hw5⟩ : ∃ w5, w5 = w4.alloc (.cells #[.slice yA mA eA, .slice yB mB eB, .slice yM mM eM, .slice yP mP eP] 27) := ⟨_, rfl⟩
  obtain ⟨j, hj⟩ : ∃ j, w4.heap.size = j := ⟨_, rfl⟩
  have b45 : Below w4.heap.size w4 w5 := by rw [hw5]; exact box_below _ _
  have b5 : Below w3.heap.size w3 w5 := hb.trans (b45.mono hb.size)
  have BW5 : Hid (Below w.heap.size w w5) := BW3.out.trans (b5.mono BW3.out.size)
  have X5 : Hid (Box4 w5 z ⟨aA, nA, cA, aB, nB, cB, aM, nM, cM, aP, nP, cP⟩) := X3.out.below b5
  have N5 : Hid (Bk w5 ⟨aA, nA, cA, aB, nB, cB, aM, nM, cM, aP, nP, cP⟩ kb) := N3.out.below b5
  have Y5 : Hid (Box4 w5 j ⟨yA, mA, eA, yB, mB, eB, yM, mM, eM, yP, mP, eP⟩) := by rw [hw5, ← hj]; exact Box4.new w4 ⟨yA, mA, eA, yB, mB, eB, yM, mM, eM, yP, mP, eP⟩ _ _
  have K5 : Hid (Bk w5 ⟨yA, mA, eA, yB, mB, eB, yM, mM, eM, yP, mP, eP⟩ R.1 ∧ Good R.1) := ⟨bk.below b45, gR⟩
  have L5 : Hid (PGood w5 al nl cl R.2.1 ∧ Que R.2.1) := ⟨gl.below b45, qR⟩
  have E5 : Hid (PGood w5 ad nd cd R.2.2 ∧ R.2.2.length ≤ 40) := ⟨gd.below b45, h40⟩
  have hnd : (nd : Int) ≤ 40 := by have := gd.len; omega
  have hl1 := gl.len
  have hl2 := gd.len
  have HN2 : Hid (nd = 2 * D.length ∧ nl + nd = n) := by have h := HLN.out; exact ⟨by omega, by omega⟩
  clear CC hb b45 b5 bk gR gl qR gd h40 p0 p1 p2 p3 X3 N3 G3 BW3 hl1 hl2 HLN
  go_upto_region 5 with fail
  rw [← hw5]
  clear hw5
  try rw [hj]
  clear hj
  have m1 : (nd : Int).tmod 2 = 0 := by have h : (nd : Int) = 2 * (D.length : Int) := (by have := HN2.out.1; omega); rw [h]; exact Int.mul_tmod_right 2 _
  have m2 : (nd : Int) % 2 = 0 := by have := HN2.out.1; omega
  have m3 : IntKind.i64.wrap ((nd : Int) + (nl : Int)) = (n : Int) := by have := HN2.out.2; rw [i64_wf (by omega) (by omega)]; omega
  have m4 : IntKind.i64.wrap 0 = 0 := by decide
  have m5 : (((nd : Int) + (nl : Int)) == (n : Int)) = true := by have := HN2.out.2; simp; omega
  go_upto_region 7 with fail
  clear m1 m2 m3 m4 m5
  obtain ⟨w6, hw6⟩ : ∃ w6, w6 = w5.alloc (.cells #[.slice aA nA cA, .slice aB nB cB, .slice aM nM cM, .slice aP nP cP] 27) := ⟨_, rfl⟩
  have X6 : Hid (XSt w5 w6 ⟨aA, nA, cA, aB, nB, cB, aM, nM, cM, aP, nP, cP⟩ kb none 0 0 []) := by rw [hw6]; exact XSt.new N5.out GB.out (PGood.nil _) Que.nil
  obtain ⟨p0, p1, p2, p3⟩ := X5.out
  replace p0 : w5.cell? ⟨z, 0, none⟩ = some (.slice aA nA cA) := p0
  replace p1 : w5.cell? ⟨z, 1, none⟩ = some (.slice aB nB cB) := p1
  replace p2 : w5.cell? ⟨z, 2, none⟩ = some (.slice aM nM cM) := p2
  replace p3 : w5.cell? ⟨z, 3, none⟩ = some (.slice aP nP cP) := p3
  go_upto_region 8 with fail
  rw [← hw6]
  clear hw6 p0 p1 p2 p3 X5 N5 GB
  go_wp2
  have HST : Hid (∃ dd, stepsQ kb rl t dd ∧ endQ kb dd = R.1 ∧ endQL rl dd = R.2.1 ∧ flatQ dd = R.2.2.drop 0) := ⟨D, HRS.out.1, HRS.out.2.1, HRS.out.2.2.1, by rw [HRS.out.2.2.2]; rfl⟩
  clear HRS
  go_loopw [15] (fun i wr => ∃ (k : Nat) (y : BA) (b' : Bks) (l' : List P7), k ≤ nd ∧ i = .int .i64 k ∧ Hid (XSt w5 wr y b' none 0 0 []) ∧ Hid (Que l') ∧ Hid (∃ dd, stepsQ b' l' t dd ∧ endQ b' dd = R.1 ∧ endQL l' dd = R.2.1 ∧ flatQ dd = R.2.2.drop k)) (fun i _ => nd - (intOf i).toNat)
  case atStart => exact ⟨0, _, kb, rl, by omega, rfl, X6, HQ1, HST⟩
  case round =>
    obtain ⟨k, y, b', l', hk, rfl, XS, QL, HS⟩ := hrel
    clear X6 HQ1 HST
    obtain ⟨vA, lA, dA, vB, lB, dB, vM, lM, dM, vP, lP, dP⟩ := y
    obtain ⟨zx, hzx⟩ : ∃ zx, w5.heap.size = zx := ⟨_, rfl⟩
    have HZX : Hid (w5.heap.size = zx) := hzx
    have XB : Hid (BVar wr zx ⟨vA, lA, dA, vB, lB, dB, vM, lM, dM, vP, lP, dP⟩) := by rw [← hzx]; exact XS.out.box
    try rw [hzx]
    clear hzx
    have kw1 : IntKind.i64.wrap ((k : Int) + 1) = k + 1 := i64_wf (by omega) (by omega)
    have kw2 : IntKind.i64.wrap ((k : Int) + 2) = k + 2 := i64_wf (by omega) (by omega)
    obtain ⟨dd, hs1, hs2, hs3, hs4⟩ := HS.out
    cases dd with
    | cons pq rr =>
      obtain ⟨p, q⟩ := pq
      obtain ⟨hlen, hat, hat2, htk, hrr⟩ := two_at (L := R.2.2) (k := k) (p := p) (q := q) (r := flatQ rr) hs4.symm
      have hdl : k + 1 < nd := by have := E5.out.1.len; omega
      have k2 : (k : Int) + 1 < (nd : Int) := by omega
      have k1 : (k : Int) < (nd : Int) := by omega
      obtain ⟨b1, off, rfl, HC⟩ := E5.out.1.at (show 0 < nd by omega)
      have CA : Hid (At7 wr b1 (off + k * 7) p) := by have := (HC k (by omega)).below XS.out.low; rw [hat] at this; exact this
      have CB : Hid (At7 wr b1 (off + (k + 1) * 7) q) := by have := (HC (k + 1) (by omega)).below XS.out.low; rw [hat2] at this; exact this
      have hcap := E5.out.1.cap
      have GK : Hid (PGood wr (pcut (some ⟨b1, off, none⟩) cd k) 2 (cd - k) [p, q]) := by
        have h1 := ((E5.out.1.below XS.out.low).from k (by omega)).take 2 (by omega)
        rw [htk] at h1
        exact h1
      obtain ⟨hnx, hst⟩ := hs1
      obtain ⟨hp, hq, ⟨e1, e2, e3⟩, hfit, hpost, -⟩ := nextQ_some hnx
      have HM1 : qHas R.2.1 p.id = false := by rw [← hs3]; exact gone_stays (d := rr) (drop2_gone QL.out p q).1
      have HM2 : qHas R.2.1 q.id = false := by rw [← hs3]; exact gone_stays (d := rr) (drop2_gone QL.out p q).2
      have HV1 := gone_find HM1
      have HV2 := gone_find HM2
      have HN : Hid (∃ dd, stepsQ (postR b' [p, q]) (drop2 l' p q) t dd ∧ endQ (postR b' [p, q]) dd = R.1 ∧ endQL (drop2 l' p q) dd = R.2.1 ∧ flatQ dd = R.2.2.drop (k + 2)) := ⟨rr, hst, hs2, hs3, hrr.symm⟩
      have HQD : Hid (Que (drop2 l' p q) ∧ Good (postR b' [p, q])) := ⟨(QL.out.drop _).drop _, postR_good XS.out.good _⟩
      have FT : Hid (∀ u, Below wr.heap.size wr u → Calls Try.prog 16 #[.agg #[.slice vA lA dA, .slice vB lB dB, .slice vM lM dM, .slice vP lP dP], .slice (pcut (some ⟨b1, off, none⟩) cd k) 2 (cd - k)] u fun e w' => e = .returned (.bool true) ∧ Below u.heap.size u w') := fun u hu => by
        have := refFFits_any ⟨vA, lA, dA, vB, lB, dB, vM, lM, dM, vP, lP, dP⟩ b' _ 2 _ [p, q] u (XS.out.bks.below hu) XS.out.good (GK.out.below hu)
        rw [hfit] at this
        exact this
      have PT : Hid (∀ (B0 : Nat) (u : World), B0 ≤ u.heap.size → Below wr.heap.size wr u → Calls Try.prog 15 #[.agg #[.slice vA lA dA, .slice vB lB dB, .slice vM lM dM, .slice vP lP dP], .slice (pcut (some ⟨b1, off, none⟩) cd k) 2 (cd - k)] u fun e w' => ∃ v, e = .returned v ∧ Below u.heap.size u w' ∧ (Fact.rp B0 (postR b' [p, q])).1 w' v) := fun B0 u hB hu => rp_fact hB hpost (refPost_new ⟨vA, lA, dA, vB, lB, dB, vM, lM, dM, vP, lP, dP⟩ b' _ 2 _ [p, q] u (XS.out.bks.below hu) XS.out.good (GK.out.below hu))
      generalize drop2 l' p q = l2 at HN HQD
      generalize postR b' [p, q] = Q at PT HN HQD
      obtain ⟨x0, x1, x2, x3, x4, x5, x6⟩ := p
      obtain ⟨y0, y1, y2, y3, y4, y5, y6⟩ := q
      replace e1 : y1 = x2 := e1
      replace e2 : y2 = x1 := e2
      replace e3 : x1 < y1 := e3
      subst e1 e2
      have HGE : Hid (decide (y1 ≤ y2) = false) := by show _ = _; rw [decide_eq_false_iff_not]; omega
      have FD1 : Hid (∀ u, Below wr.heap.size wr u → Calls Try.prog 17 #[.slice al nl cl, .int .i64 x0] u fun e w' => e = .returned (.int .i64 (qFind R.2.1 x0)) ∧ Below u.heap.size u w') := fun u hu => (refFind_any al nl cl x0 R.2.1 u (by have := HN2.out; omega) ((L5.out.1.below XS.out.low).below hu).pays).mono fun e w' h => ⟨h.1, by rw [h.2]; exact Below.refl _ _⟩
      have FD2 : Hid (∀ u, Below wr.heap.size wr u → Calls Try.prog 17 #[.slice al nl cl, .int .i64 y0] u fun e w' => e = .returned (.int .i64 (qFind R.2.1 y0)) ∧ Below u.heap.size u w') := fun u hu => (refFind_any al nl cl y0 R.2.1 u (by have := HN2.out; omega) ((L5.out.1.below XS.out.low).below hu).pays).mono fun e w' h => ⟨h.1, by rw [h.2]; exact Below.refl _ _⟩
      replace HV1 : Hid (decide (0 ≤ qFind R.2.1 x0) = false) := HV1
      replace HV2 : Hid (decide (0 ≤ qFind R.2.1 y0) = false) := HV2
      generalize qFind R.2.1 x0 = V1 at FD1 HV1
      generalize qFind R.2.1 y0 = V2 at FD2 HV2
      clear hs2 hs3 hs4 hlen hat hat2 htk hrr HC hnx hst hp hq e3 hfit hpost HM1 HM2 QL HS
      go_upto_region 11 with fail
      go_cut [16, 17] from 61 to 69 (fun s f wc => ∃ (g g2 : Nat), s = .pointer (some ⟨g, 0, none⟩) ∧ f = .pointer (some ⟨g2, 0, none⟩) ∧ Hid (PBox wc g (x0, y2, y1, x3, x4, x5, x6)) ∧ Hid (PBox wc g2 (y0, y1, y2, y3, y4, y5, y6)) ∧ Hid (Below wr.heap.size wr wc))
      case first =>
        have kt : ((k : Int) + 1).toNat = k + 1 := by omega
        have k0 : (0 : Int) ≤ (k : Int) + 1 := by omega
        obtain ⟨r0, r1, r2, r3, r4, r5, r6⟩ := CA.out
        simp only [P7.id, P7.fr, P7.to, P7.am, P7.cl, P7.st, P7.ti, Nat.zero_add] at r0 r1 r2 r3 r4 r5 r6
        obtain ⟨s0, s1, s2, s3, s4, s5, s6⟩ := CB.out
        simp only [P7.id, P7.fr, P7.to, P7.am, P7.cl, P7.st, P7.ti, Nat.zero_add] at s0 s1 s2 s3 s4 s5 s6
        have hlt1 : b1 < wr.heap.size := block_lt_of_cell r0
        have ne1 : wr.heap.size ≠ b1 := by omega
        have ne2 : wr.heap.size + 1 ≠ b1 := by omega
        have ne3 : b1 ≠ wr.heap.size := by omega
        have ne4 : b1 ≠ wr.heap.size + 1 := by omega
        go_region
        · have q1 := box_below wr (.cells #[.int .i64 x0, .int .i64 y2, .int .i64 y1, .int .i64 x3, .int .i64 x4, .int .i64 x5, .int .i64 x6] 31)
          have q2 := q1.alloc q1.size (.cells #[.int .i64 y0, .int .i64 y1, .int .i64 y2, .int .i64 y3, .int .i64 y4, .int .i64 y5, .int .i64 y6] 31)
          have BB : Hid (Below wr.heap.size wr ((wr.alloc (.cells #[.int .i64 x0, .int .i64 y2, .int .i64 y1, .int .i64 x3, .int .i64 x4, .int .i64 x5, .int .i64 x6] 31)).alloc (.cells #[.int .i64 y0, .int .i64 y1, .int .i64 y2, .int .i64 y3, .int .i64 y4, .int .i64 y5, .int .i64 y6] 31)).drew) := q2.trans ((drawn_below _ 1).mono q2.size)
          have PX : Hid (PBox ((wr.alloc (.cells #[.int .i64 x0, .int .i64 y2, .int .i64 y1, .int .i64 x3, .int .i64 x4, .int .i64 x5, .int .i64 x6] 31)).alloc (.cells #[.int .i64 y0, .int .i64 y1, .int .i64 y2, .int .i64 y3, .int .i64 y4, .int .i64 y5, .int .i64 y6] 31)).drew wr.heap.size (x0, y2, y1, x3, x4, x5, x6)) := ((PBox.new wr (x0, y2, y1, x3, x4, x5, x6)).below (box_below _ _)).below (drawn_below _ 1)
          have PY : Hid (PBox ((wr.alloc (.cells #[.int .i64 x0, .int .i64 y2, .int .i64 y1, .int .i64 x3, .int .i64 x4, .int .i64 x5, .int .i64 x6] 31)).alloc (.cells #[.int .i64 y0, .int .i64 y1, .int .i64 y2, .int .i64 y3, .int .i64 y4, .int .i64 y5, .int .i64 y6] 31)).drew (wr.heap.size + 1) (y0, y1, y2, y3, y4, y5, y6)) := by
            have := (PBox.new (wr.alloc (.cells #[.int .i64 x0, .int .i64 y2, .int .i64 y1, .int .i64 x3, .int .i64 x4, .int .i64 x5, .int .i64 x6] 31)) (y0, y1, y2, y3, y4, y5, y6)).below (drawn_below _ 1)
            rw [size_alloc] at this
            exact this
          clear q1 q2 r0 r1 r2 r3 r4 r5 r6 s0 s1 s2 s3 s4 s5 s6 hlt1 ne1 ne2 ne3 ne4 kt k0
          generalize ((wr.alloc (.cells #[.int .i64 x0, .int .i64 y2, .int .i64 y1, .int .i64 x3, .int .i64 x4, .int .i64 x5, .int .i64 x6] 31)).alloc (.cells #[.int .i64 y0, .int .i64 y1, .int .i64 y2, .int .i64 y3, .int .i64 y4, .int .i64 y5, .int .i64 y6] 31)).drew = wx at BB PX PY ⊢
          go_wp2
          go_meet
          exact ⟨_, _, rfl, rfl, PX, PY, BB⟩
        · have q1 := box_below wr (.cells #[.int .i64 y0, .int .i64 y1, .int .i64 y2, .int .i64 y3, .int .i64 y4, .int .i64 y5, .int .i64 y6] 31)
          have q2 := q1.alloc q1.size (.cells #[.int .i64 x0, .int .i64 y2, .int .i64 y1, .int .i64 x3, .int .i64 x4, .int .i64 x5, .int .i64 x6] 31)
          have BB : Hid (Below wr.heap.size wr ((wr.alloc (.cells #[.int .i64 y0, .int .i64 y1, .int .i64 y2, .int .i64 y3, .int .i64 y4, .int .i64 y5, .int .i64 y6] 31)).alloc (.cells #[.int .i64 x0, .int .i64 y2, .int .i64 y1, .int .i64 x3, .int .i64 x4, .int .i64 x5, .int .i64 x6] 31)).drew) := q2.trans ((drawn_below _ 1).mono q2.size)
          have PY : Hid (PBox ((wr.alloc (.cells #[.int .i64 y0, .int .i64 y1, .int .i64 y2, .int .i64 y3, .int .i64 y4, .int .i64 y5, .int .i64 y6] 31)).alloc (.cells #[.int .i64 x0, .int .i64 y2, .int .i64 y1, .int .i64 x3, .int .i64 x4, .int .i64 x5, .int .i64 x6] 31)).drew wr.heap.size (y0, y1, y2, y3, y4, y5, y6)) := ((PBox.new wr (y0, y1, y2, y3, y4, y5, y6)).below (box_below _ _)).below (drawn_below _ 1)
          have PX : Hid (PBox ((wr.alloc (.cells #[.int .i64 y0, .int .i64 y1, .int .i64 y2, .int .i64 y3, .int .i64 y4, .int .i64 y5, .int .i64 y6] 31)).alloc (.cells #[.int .i64 x0, .int .i64 y2, .int .i64 y1, .int .i64 x3, .int .i64 x4, .int .i64 x5, .int .i64 x6] 31)).drew (wr.heap.size + 1) (x0, y2, y1, x3, x4, x5, x6)) := by
            have := (PBox.new (wr.alloc (.cells #[.int .i64 y0, .int .i64 y1, .int .i64 y2, .int .i64 y3, .int .i64 y4, .int .i64 y5, .int .i64 y6] 31)) (x0, y2, y1, x3, x4, x5, x6)).below (drawn_below _ 1)
            rw [size_alloc] at this
            exact this
          clear q1 q2 r0 r1 r2 r3 r4 r5 r6 s0 s1 s2 s3 s4 s5 s6 hlt1 ne1 ne2 ne3 ne4 kt k0
          generalize ((wr.alloc (.cells #[.int .i64 y0, .int .i64 y1, .int .i64 y2, .int .i64 y3, .int .i64 y4, .int .i64 y5, .int .i64 y6] 31)).alloc (.cells #[.int .i64 x0, .int .i64 y2, .int .i64 y1, .int .i64 x3, .int .i64 x4, .int .i64 x5, .int .i64 x6] 31)).drew = wx at BB PX PY ⊢
          go_wp2
          go_meet
          exact ⟨_, _, rfl, rfl, PX, PY, BB⟩
      case rest =>
      obtain ⟨gp, gq, hs, hf, PA, PB, BC⟩ := hcut
      subst hs hf
      obtain ⟨w7, rfl⟩ : ∃ z, z = wc := ⟨wc, rfl⟩
      have XS7 : Hid (XSt w5 w7 ⟨vA, lA, dA, vB, lB, dB, vM, lM, dM, vP, lP, dP⟩ b' none 0 0 []) := XS.out.below BC.out
      have B7 : Hid (Below wr.heap.size wr w7) := BC.out
      clear BC CA CB
      go_upto_region 12 with fail
      go_cut [18, 19] from 70 to 79 (fun s f wc => ∃ (z : Nat) (y : BA), s = .pointer (some ⟨z, 0, none⟩) ∧ f = .int .i64 0 ∧ Hid (BVar wc z y) ∧ Hid (NewBk wc w7.heap.size y Q) ∧ Hid (Below w7.heap.size w7 wc))
      case first =>
        have XB4 : Hid (Box4 w7 zx ⟨vA, lA, dA, vB, lB, dB, vM, lM, dM, vP, lP, dP⟩) := by rw [← HZX.out]; exact XS7.out.box.box
        refine region_owes_late 11 9 (L := [Fact.is (.agg #[.slice vA lA dA, .slice vB lB dB, .slice vM lM dM, .slice vP lP dP]),
          Fact.is (.slice (some ⟨b1, off, none⟩) nd cd),
          Fact.is (.int .i64 k),
          Fact.is (.int .i64 k),
          Fact.is (.int .i64 (k + 2)),
          Fact.is (.slice (pcut (some ⟨b1, off, none⟩) cd k) 2 (cd - k)),
          Fact.rp w7.heap.size Q,
          Fact.rp w7.heap.size Q,
          Fact.nb w7.heap.size Q,
          Fact.is (.int .i64 0),
          Fact.gvar w7.heap.size])
          (T := [71, 72, 73, 74, 75, 76, 77, 70, 78, 79, 18]) (by kernel_rfl) rfl (Nat.le_of_ble_eq_true rfl) (by kernel_rfl) (by kernel_rfl) (by kernel_rfl) (by kernel_rfl) (by kernel_rfl) rfl ?owes ?_ ?_
        case owes =>
          simp only [List.take_succ_cons, List.take_zero]
          refine .cons (owes_value fun q u lh => ⟨wants_free rfl, .agg #[.slice vA lA dA, .slice vB lB dB, .slice vM lM dM, .slice vP lP dP], by have e14 : q.tmps.getD 14 undef = .pointer (some ⟨zx, 0, none⟩) := lh.old 14 rfl; obtain ⟨p0, p1, p2, p3⟩ := XB4.out.below lh.below; simp [execOp, Act.eval, e14, p0, p1, p2, p3, go_sem], rfl⟩) ?_
          refine .cons (owes_move (.tmp 13) (.inl rfl) fun q u lh => ⟨wants_free rfl, lh.old 13 rfl⟩) ?_
          refine .cons (owes_move (.tmp 15) (.inl rfl) fun q u lh => ⟨wants_free rfl, lh.old 15 rfl⟩) ?_
          refine .cons (owes_move (.tmp 15) (.inl rfl) fun q u lh => ⟨wants_free rfl, lh.old 15 rfl⟩) ?_
          refine .cons (owes_value fun q u lh => ⟨wants_free rfl, .int .i64 (k + 2), by have e74 : q.tmps.getD 74 undef = .int .i64 k := lh.dep 3 rfl; simp [execOp, Act.eval, e74, kw2, go_sem], rfl⟩) ?_
          refine .cons (owes_value fun q u lh => ⟨wants_free rfl, .slice (pcut (some ⟨b1, off, none⟩) cd k) 2 (cd - k), by have e72 : q.tmps.getD 72 undef = .slice (some ⟨b1, off, none⟩) nd cd := lh.dep 1 rfl; have e73 : q.tmps.getD 73 undef = .int .i64 k := lh.dep 2 rfl; have e75 : q.tmps.getD 75 undef = .int .i64 (k + 2) := lh.dep 4 rfl; have z1 : (k : Int) + 2 ≤ cd := (by omega); have z2 : ((k : Int) + 2).toNat = k + 2 := (by omega); have z3 : (k : Int) ≤ (k : Int) + 2 := (by omega); have z4 : k + 2 - k = 2 := (by omega); simp [execOp, Act.eval, e72, e73, e75, z1, z2, z3, z4, pcut, go_sem], rfl⟩) ?_
          refine .cons (owes_call 15 Try.func15 (by kernel_rfl) (by kernel_rfl) [.tmp 71, .tmp 76] #[27, 23] rfl fun q u lh => ⟨wants_free rfl, by have e71 : q.tmps.getD 71 undef = .agg #[.slice vA lA dA, .slice vB lB dB, .slice vM lM dM, .slice vP lP dP] := lh.dep 0 rfl; have e76 : q.tmps.getD 76 undef = .slice (pcut (some ⟨b1, off, none⟩) cd k) 2 (cd - k) := lh.dep 5 rfl; show Calls Try.prog 15 #[q.tmps.getD 71 undef, q.tmps.getD 76 undef] u _; rw [e71, e76]; exact PT.out _ u lh.below.size (B7.out.trans (lh.below.mono B7.out.size))⟩) ?_
          refine .cons (owes_move (.tmp 77) (.inl rfl) fun q u lh => ⟨wants_free rfl, lh.dep 6 rfl⟩) ?_
          refine .cons (owes_value fun q1 u lh => by obtain ⟨y, e70, h70⟩ := lh.dep 7 rfl; have e70 : q1.tmps[70]?.getD undef = _ := (Array.getD_eq_getD_getElem? ..).symm.trans e70; exact ⟨wants_free rfl, y.val, by simp [execOp, Act.eval, e70, go_sem], y, rfl, h70⟩) ?_
          refine .cons (owes_value fun q1 u lh => by obtain ⟨y, e70, h70⟩ := lh.dep 7 rfl; have e70 : q1.tmps[70]?.getD undef = _ := (Array.getD_eq_getD_getElem? ..).symm.trans e70; exact ⟨wants_free rfl, .int .i64 0, by simp [execOp, Act.eval, e70, go_sem], rfl⟩) ?_
          refine .cons (owes_make fun q1 u lh => ⟨wants_free rfl, .pointer (some ⟨u.heap.size, 0, none⟩), u.alloc (.cells #[.slice none 0 0, .slice none 0 0, .slice none 0 0, .slice none 0 0] 27), by simp [execOp, Act.eval, go_sem], box_below _ _, ⟨_, rfl, lh.below.size, heap_alloc_new u _⟩⟩) ?_
          exact .nil _
        · intro q1 u hb hsz hdf hold hfact
          obtain ⟨y, ec, -⟩ : (Fact.rp w7.heap.size Q).1 u (q1.tmps.getD 77 undef) := hfact 6 (by decide)
          obtain ⟨yy, em, -⟩ : (Fact.rp w7.heap.size Q).1 u (q1.tmps.getD 70 undef) := hfact 7 (by decide)
          obtain ⟨yx, ex, nx⟩ : (Fact.nb w7.heap.size Q).1 u (q1.tmps.getD 78 undef) := hfact 8 (by decide)
          obtain ⟨z, ez, hz, hzc⟩ : (Fact.gvar w7.heap.size).1 u (q1.tmps.getD 18 undef) := hfact 10 (by decide)
          obtain ⟨gA, hA, iA, gB, hB, iB, gM, hM, iM, gP, hP, iP⟩ := yx
          have hzv : BVar u z ba0 := hzc
          have BB : Hid (Below w7.heap.size w7 (u.setRow z #[.slice gA hA iA, .slice gB hB iB, .slice gM hM iM, .slice gP hP iP])) := Below.setRow hb hz _
          have NN : Hid (NewBk (u.setRow z #[.slice gA hA iA, .slice gB hB iB, .slice gM hM iM, .slice gP hP iP]) w7.heap.size ⟨gA, hA, iA, gB, hB, iB, gM, hM, iM, gP, hP, iP⟩ Q) := nx.far hzv _
          have VV : Hid (BVar (u.setRow z #[.slice gA hA iA, .slice gB hB iB, .slice gM hM iM, .slice gP hP iP]) z ⟨gA, hA, iA, gB, hB, iB, gM, hM, iM, gP, hP, iP⟩) := hzv.set ⟨gA, hA, iA, gB, hB, iB, gM, hM, iM, gP, hP, iP⟩
          obtain rfl := frame_puts hsz hdf [71, 72, 73, 74, 75, 76, 77, 70, 78, 79, 18] hold [(71, Value.agg #[.slice vA lA dA, .slice vB lB dB, .slice vM lM dM, .slice vP lP dP]), (72, Value.slice (some ⟨b1, off, none⟩) nd cd), (73, Value.int .i64 k), (74, Value.int .i64 k), (75, Value.int .i64 (k + 2)), (76, Value.slice (pcut (some ⟨b1, off, none⟩) cd k) 2 (cd - k)), (77, Value.tuple #[y.val, .int .i64 0]), (70, Value.tuple #[yy.val, .int .i64 0]), (78, BA.val ⟨gA, hA, iA, gB, hB, iB, gM, hM, iM, gP, hP, iP⟩), (79, Value.int .i64 0), (18, Value.pointer (some ⟨z, 0, none⟩))] ⟨hfact 0 (by decide), hfact 1 (by decide), hfact 2 (by decide), hfact 3 (by decide), hfact 4 (by decide), hfact 5 (by decide), ec, em, ex, hfact 9 (by decide), ez, trivial⟩ rfl
          clear hsz hdf hold hfact
          simp only [List.drop_succ_cons, List.drop_zero, TailWp, LateWp, List.take_succ_cons, List.take_zero, List.getD_cons_zero, List.getD_cons_succ]
          simp only [puts, Act.put, List.setIfInBounds_toArray, List.set_cons_zero, List.set_cons_succ]
          refine wp_store_row 27 (.tmp 18) (.tmp 78) rfl z #[.slice gA hA iA, .slice gB hB iB, .slice gM hM iM, .slice gP hP iP] rfl rfl _ _ hzc booksSize (by simp) (by simp [Value.oneCell']) ?_
          refine wp_assign _ rfl ?_
          generalize u.setRow z #[.slice gA hA iA, .slice gB hB iB, .slice gM hM iM, .slice gP hP iP] = wf at BB NN VV ⊢
          clear hb hzc hzv nx kw1 kw2 k1 k2
          go_wp2
          go_meet
          exact ⟨z, _, rfl, rfl, VV, NN, BB⟩
        · intro q1 u hb hsz hdf hold hfact
          obtain ⟨y, ec, -⟩ : (Fact.rp w7.heap.size Q).1 u (q1.tmps.getD 77 undef) := hfact 6 (by decide) (by decide)
          obtain ⟨yy, em, -⟩ : (Fact.rp w7.heap.size Q).1 u (q1.tmps.getD 70 undef) := hfact 7 (by decide) (by decide)
          obtain ⟨yx, ex, nx⟩ : (Fact.nb w7.heap.size Q).1 u (q1.tmps.getD 78 undef) := hfact 8 (by decide) (by decide)
          obtain ⟨z, ez, hz, hzc⟩ : (Fact.gvar w7.heap.size).1 u (q1.tmps.getD 18 undef) := hfact 10 (by decide) (by decide)
          obtain ⟨ve, ee⟩ : ∃ v, q1.tmps.getD 79 undef = v := ⟨_, rfl⟩
          obtain ⟨gA, hA, iA, gB, hB, iB, gM, hM, iM, gP, hP, iP⟩ := yx
          have hzv : BVar u z ba0 := hzc
          have BB : Hid (Below w7.heap.size w7 (u.setRow z #[.slice gA hA iA, .slice gB hB iB, .slice gM hM iM, .slice gP hP iP])) := Below.setRow hb hz _
          have NN : Hid (NewBk (u.setRow z #[.slice gA hA iA, .slice gB hB iB, .slice gM hM iM, .slice gP hP iP]) w7.heap.size ⟨gA, hA, iA, gB, hB, iB, gM, hM, iM, gP, hP, iP⟩ Q) := nx.far hzv _
          have VV : Hid (BVar (u.setRow z #[.slice gA hA iA, .slice gB hB iB, .slice gM hM iM, .slice gP hP iP]) z ⟨gA, hA, iA, gB, hB, iB, gM, hM, iM, gP, hP, iP⟩) := hzv.set ⟨gA, hA, iA, gB, hB, iB, gM, hM, iM, gP, hP, iP⟩
          obtain rfl := frame_puts hsz hdf [71, 72, 73, 74, 75, 76, 77, 70, 78, 79, 18] hold [(71, Value.agg #[.slice vA lA dA, .slice vB lB dB, .slice vM lM dM, .slice vP lP dP]), (72, Value.slice (some ⟨b1, off, none⟩) nd cd), (73, Value.int .i64 k), (74, Value.int .i64 k), (75, Value.int .i64 (k + 2)), (76, Value.slice (pcut (some ⟨b1, off, none⟩) cd k) 2 (cd - k)), (77, Value.tuple #[y.val, .int .i64 0]), (70, Value.tuple #[yy.val, .int .i64 0]), (78, BA.val ⟨gA, hA, iA, gB, hB, iB, gM, hM, iM, gP, hP, iP⟩), (79, ve), (18, Value.pointer (some ⟨z, 0, none⟩))] ⟨hfact 0 (by decide) (by decide), hfact 1 (by decide) (by decide), hfact 2 (by decide) (by decide), hfact 3 (by decide) (by decide), hfact 4 (by decide) (by decide), hfact 5 (by decide) (by decide), ec, em, ex, ee, ez, trivial⟩ rfl
          clear hsz hdf hold hfact
          simp only [List.drop_succ_cons, List.drop_zero, TailWp, LateWp, List.take_succ_cons, List.take_zero, List.getD_cons_zero, List.getD_cons_succ]
          simp only [puts, Act.put, List.setIfInBounds_toArray, List.set_cons_zero, List.set_cons_succ]
          refine wp_store_row 27 (.tmp 18) (.tmp 78) rfl z #[.slice gA hA iA, .slice gB hB iB, .slice gM hM iM, .slice gP hP iP] rfl rfl _ _ hzc booksSize (by simp) (by simp [Value.oneCell']) ?_
          refine wp_value (.int .i64 0) (by simp [execOp, Act.eval, go_sem]) ?_
          simp only [Act.put, List.setIfInBounds_toArray, List.set_cons_zero, List.set_cons_succ]
          refine wp_assign _ rfl ?_
          generalize u.setRow z #[.slice gA hA iA, .slice gB hB iB, .slice gM hM iM, .slice gP hP iP] = wf at BB NN VV ⊢
          clear hb hzc hzv nx kw1 kw2 k1 k2
          go_wp2
          go_meet
          exact ⟨z, _, rfl, rfl, VV, NN, BB⟩
      case rest =>
      obtain ⟨zy, y2, hs, hf, VY, NY, BY⟩ := hcut
      subst hs hf
      obtain ⟨gA, hA, iA, gB, hB, iB, gM, hM, iM, gP, hP, iP⟩ := y2
      obtain ⟨w8, rfl⟩ : ∃ z, z = wc := ⟨wc, rfl⟩
      have XS8 : Hid (XSt w5 w8 ⟨vA, lA, dA, vB, lB, dB, vM, lM, dM, vP, lP, dP⟩ b' none 0 0 []) := XS7.out.below BY.out
      have B8 : Hid (Below wr.heap.size wr w8) := B7.out.trans (BY.out.mono B7.out.size)
      have A8 : Hid (PBox w8 gp (x0, y2, y1, x3, x4, x5, x6)) := PA.out.below BY.out
      have C8 : Hid (PBox w8 gq (y0, y1, y2, y3, y4, y5, y6)) := PB.out.below BY.out
      have N8 : Hid (NewBk w8 w5.heap.size ⟨gA, hA, iA, gB, hB, iB, gM, hM, iM, gP, hP, iP⟩ Q) := NY.out.base (Nat.le_trans XS.out.low.size B7.out.size)
      have XB8 : Hid (Box4 w8 zx ⟨vA, lA, dA, vB, lB, dB, vM, lM, dM, vP, lP, dP⟩) := by rw [← HZX.out]; exact XS8.out.box.box
      clear BY NY XS7 B7 PT GK PA PB
      go_upto_region 13 with fail
      refine region_owes (L := [Fact.is (.pointer (some ⟨gp, 1, none⟩)),
        Fact.is (.int .i64 y2),
        Fact.is (.pointer (some ⟨gq, 2, none⟩)),
        Fact.is (.int .i64 y2),
        Fact.is (.bool false),
        Fact.is (.bool false),
        Fact.is (.pointer (some ⟨gp, 2, none⟩)),
        Fact.is (.int .i64 y1),
        Fact.is (.pointer (some ⟨gq, 1, none⟩)),
        Fact.is (.int .i64 y1),
        Fact.is (.bool false),
        Fact.is (.bool false),
        Fact.is (.bool false),
        Fact.is (.pointer (some ⟨gp, 1, none⟩)),
        Fact.is (.int .i64 y2),
        Fact.is (.pointer (some ⟨gq, 1, none⟩)),
        Fact.is (.int .i64 y1),
        Fact.is (.bool false),
        Fact.is (.bool false),
        Fact.is (.bool false),
        Fact.is (.agg #[.slice vA lA dA, .slice vB lB dB, .slice vM lM dM, .slice vP lP dP]),
        Fact.is (.slice (some ⟨b1, off, none⟩) nd cd),
        Fact.is (.int .i64 k),
        Fact.is (.int .i64 k),
        Fact.is (.int .i64 (k + 2)),
        Fact.is (.slice (pcut (some ⟨b1, off, none⟩) cd k) 2 (cd - k)),
        Fact.is (.bool true),
        Fact.is (.bool false),
        Fact.is (.bool false),
        Fact.is (.bool false),
        Fact.is (.int .i64 0),
        Fact.is (.bool false),
        Fact.is (.bool false),
        Fact.is (.bool false),
        Fact.is (.slice al nl cl),
        Fact.is (.pointer (some ⟨gp, 0, none⟩)),
        Fact.is (.int .i64 x0),
        Fact.is (.int .i64 V1),
        Fact.is (.bool false),
        Fact.is (.bool false),
        Fact.is (.bool false),
        Fact.is (.slice al nl cl),
        Fact.is (.pointer (some ⟨gq, 0, none⟩)),
        Fact.is (.int .i64 y0),
        Fact.is (.int .i64 V2),
        Fact.is (.bool false),
        Fact.is (.bool false)])
        (T := [80, 81, 82, 83, 84, 85, 86, 87, 88, 89, 90, 91, 92, 93, 94, 95, 96, 97, 98, 99, 100, 101, 102, 103, 104, 105, 106, 107, 108, 109, 110, 111, 112, 113, 114, 115, 116, 117, 118, 119, 120, 121, 122, 123, 124, 125, 126]) (by kernel_rfl) (by kernel_rfl) rfl ?owes ?_
      case owes =>
        refine .cons (owes_value fun q u lh => ⟨wants_free rfl, .pointer (some ⟨gp, 1, none⟩), by have e16 : q.tmps.getD 16 undef = .pointer (some ⟨gp, 0, none⟩) := lh.old 16 rfl; simp [execOp, Act.eval, e16, go_sem], rfl⟩) ?_
        refine .cons (owes_value fun q u lh => ⟨wants_free rfl, .int .i64 y2, by have e80 : q.tmps.getD 80 undef = .pointer (some ⟨gp, 1, none⟩) := lh.dep 0 rfl; obtain ⟨z0, z1, z2, z3, z4, z5, z6⟩ := (A8.out.below lh.below).at7; simp only [P7.id, P7.fr, P7.to, P7.am, P7.cl, P7.st, P7.ti] at z1; simp [execOp, Act.eval, e80, z1, go_sem], rfl⟩) ?_
        refine .cons (owes_value fun q u lh => ⟨wants_free rfl, .pointer (some ⟨gq, 2, none⟩), by have e17 : q.tmps.getD 17 undef = .pointer (some ⟨gq, 0, none⟩) := lh.old 17 rfl; simp [execOp, Act.eval, e17, go_sem], rfl⟩) ?_
        refine .cons (owes_value fun q u lh => ⟨wants_free rfl, .int .i64 y2, by have e82 : q.tmps.getD 82 undef = .pointer (some ⟨gq, 2, none⟩) := lh.dep 2 rfl; obtain ⟨z0, z1, z2, z3, z4, z5, z6⟩ := (C8.out.below lh.below).at7; simp only [P7.id, P7.fr, P7.to, P7.am, P7.cl, P7.st, P7.ti] at z2; simp [execOp, Act.eval, e82, z2, go_sem], rfl⟩) ?_
        refine .cons (owes_value fun q u lh => ⟨wants_free rfl, .bool false, by have e81 : q.tmps.getD 81 undef = .int .i64 y2 := lh.dep 1 rfl; have e83 : q.tmps.getD 83 undef = .int .i64 y2 := lh.dep 3 rfl; simp [execOp, Act.eval, e81, e83, go_sem], rfl⟩) ?_
        refine .cons (owes_move (.tmp 84) (.inl rfl) fun q u lh => ⟨wants_free rfl, lh.dep 4 rfl⟩) ?_
        refine .cons (owes_value fun q u lh => ⟨lh.wants1 5 false rfl rfl rfl, .pointer (some ⟨gp, 2, none⟩), by have e16 : q.tmps.getD 16 undef = .pointer (some ⟨gp, 0, none⟩) := lh.old 16 rfl; simp [execOp, Act.eval, e16, go_sem], rfl⟩) ?_
        refine .cons (owes_value fun q u lh => ⟨lh.wants1 5 false rfl rfl rfl, .int .i64 y1, by have e86 : q.tmps.getD 86 undef = .pointer (some ⟨gp, 2, none⟩) := lh.dep 6 rfl; obtain ⟨z0, z1, z2, z3, z4, z5, z6⟩ := (A8.out.below lh.below).at7; simp only [P7.id, P7.fr, P7.to, P7.am, P7.cl, P7.st, P7.ti] at z2; simp [execOp, Act.eval, e86, z2, go_sem], rfl⟩) ?_
        refine .cons (owes_value fun q u lh => ⟨lh.wants1 5 false rfl rfl rfl, .pointer (some ⟨gq, 1, none⟩), by have e17 : q.tmps.getD 17 undef = .pointer (some ⟨gq, 0, none⟩) := lh.old 17 rfl; simp [execOp, Act.eval, e17, go_sem], rfl⟩) ?_
        refine .cons (owes_value fun q u lh => ⟨lh.wants1 5 false rfl rfl rfl, .int .i64 y1, by have e88 : q.tmps.getD 88 undef = .pointer (some ⟨gq, 1, none⟩) := lh.dep 8 rfl; obtain ⟨z0, z1, z2, z3, z4, z5, z6⟩ := (C8.out.below lh.below).at7; simp only [P7.id, P7.fr, P7.to, P7.am, P7.cl, P7.st, P7.ti] at z1; simp [execOp, Act.eval, e88, z1, go_sem], rfl⟩) ?_
        refine .cons (owes_value fun q u lh => ⟨lh.wants1 5 false rfl rfl rfl, .bool false, by have e87 : q.tmps.getD 87 undef = .int .i64 y1 := lh.dep 7 rfl; have e89 : q.tmps.getD 89 undef = .int .i64 y1 := lh.dep 9 rfl; simp [execOp, Act.eval, e87, e89, go_sem], rfl⟩) ?_
        refine .cons (owes_pick (.tmp 85) (.const (.bool true)) (.tmp 90) rfl fun q u lh => ⟨wants_free rfl, false, lh.dep 5 rfl, lh.dep 10 rfl⟩) ?_
        refine .cons (owes_move (.tmp 91) (.inl rfl) fun q u lh => ⟨wants_free rfl, lh.dep 11 rfl⟩) ?_
        refine .cons (owes_value fun q u lh => ⟨lh.wants1 12 false rfl rfl rfl, .pointer (some ⟨gp, 1, none⟩), by have e16 : q.tmps.getD 16 undef = .pointer (some ⟨gp, 0, none⟩) := lh.old 16 rfl; simp [execOp, Act.eval, e16, go_sem], rfl⟩) ?_
        refine .cons (owes_value fun q u lh => ⟨lh.wants1 12 false rfl rfl rfl, .int .i64 y2, by have e93 : q.tmps.getD 93 undef = .pointer (some ⟨gp, 1, none⟩) := lh.dep 13 rfl; obtain ⟨z0, z1, z2, z3, z4, z5, z6⟩ := (A8.out.below lh.below).at7; simp only [P7.id, P7.fr, P7.to, P7.am, P7.cl, P7.st, P7.ti] at z1; simp [execOp, Act.eval, e93, z1, go_sem], rfl⟩) ?_
        refine .cons (owes_value fun q u lh => ⟨lh.wants1 12 false rfl rfl rfl, .pointer (some ⟨gq, 1, none⟩), by have e17 : q.tmps.getD 17 undef = .pointer (some ⟨gq, 0, none⟩) := lh.old 17 rfl; simp [execOp, Act.eval, e17, go_sem], rfl⟩) ?_
        refine .cons (owes_value fun q u lh => ⟨lh.wants1 12 false rfl rfl rfl, .int .i64 y1, by have e95 : q.tmps.getD 95 undef = .pointer (some ⟨gq, 1, none⟩) := lh.dep 15 rfl; obtain ⟨z0, z1, z2, z3, z4, z5, z6⟩ := (C8.out.below lh.below).at7; simp only [P7.id, P7.fr, P7.to, P7.am, P7.cl, P7.st, P7.ti] at z1; simp [execOp, Act.eval, e95, z1, go_sem], rfl⟩) ?_
        refine .cons (owes_value fun q u lh => ⟨lh.wants1 12 false rfl rfl rfl, .bool false, by have e94 : q.tmps.getD 94 undef = .int .i64 y2 := lh.dep 14 rfl; have e96 : q.tmps.getD 96 undef = .int .i64 y1 := lh.dep 16 rfl; simp [execOp, Act.eval, e94, e96, HGE.out, go_sem], rfl⟩) ?_
        refine .cons (owes_pick (.tmp 92) (.const (.bool true)) (.tmp 97) rfl fun q u lh => ⟨wants_free rfl, false, lh.dep 12 rfl, lh.dep 17 rfl⟩) ?_
        refine .cons (owes_move (.tmp 98) (.inl rfl) fun q u lh => ⟨wants_free rfl, lh.dep 18 rfl⟩) ?_
        refine .cons (owes_value fun q u lh => ⟨lh.wants1 19 false rfl rfl rfl, .agg #[.slice vA lA dA, .slice vB lB dB, .slice vM lM dM, .slice vP lP dP], by have e14 : q.tmps.getD 14 undef = .pointer (some ⟨zx, 0, none⟩) := lh.old 14 rfl; obtain ⟨p0, p1, p2, p3⟩ := XB8.out.below lh.below; simp [execOp, Act.eval, e14, p0, p1, p2, p3, go_sem], rfl⟩) ?_
        refine .cons (owes_move (.tmp 13) (.inl rfl) fun q u lh => ⟨lh.wants1 19 false rfl rfl rfl, lh.old 13 rfl⟩) ?_
        refine .cons (owes_move (.tmp 15) (.inl rfl) fun q u lh => ⟨lh.wants1 19 false rfl rfl rfl, lh.old 15 rfl⟩) ?_
        refine .cons (owes_move (.tmp 15) (.inl rfl) fun q u lh => ⟨lh.wants1 19 false rfl rfl rfl, lh.old 15 rfl⟩) ?_
        refine .cons (owes_value fun q u lh => ⟨lh.wants1 19 false rfl rfl rfl, .int .i64 (k + 2), by have e103 : q.tmps.getD 103 undef = .int .i64 k := lh.dep 23 rfl; simp [execOp, Act.eval, e103, kw2, go_sem], rfl⟩) ?_
        refine .cons (owes_value fun q u lh => ⟨lh.wants1 19 false rfl rfl rfl, .slice (pcut (some ⟨b1, off, none⟩) cd k) 2 (cd - k), by have e101 : q.tmps.getD 101 undef = .slice (some ⟨b1, off, none⟩) nd cd := lh.dep 21 rfl; have e102 : q.tmps.getD 102 undef = .int .i64 k := lh.dep 22 rfl; have e104 : q.tmps.getD 104 undef = .int .i64 (k + 2) := lh.dep 24 rfl; have z1 : (k : Int) + 2 ≤ cd := (by omega); have z2 : ((k : Int) + 2).toNat = k + 2 := (by omega); have z3 : (k : Int) ≤ (k : Int) + 2 := (by omega); have z4 : k + 2 - k = 2 := (by omega); simp [execOp, Act.eval, e101, e102, e104, z1, z2, z3, z4, pcut, go_sem], rfl⟩) ?_
        refine .cons (owes_call 16 Try.func16 (by kernel_rfl) (by kernel_rfl) [.tmp 100, .tmp 105] #[27, 23] rfl fun q u lh => ⟨lh.wants1 19 false rfl rfl rfl, by have e100 : q.tmps.getD 100 undef = .agg #[.slice vA lA dA, .slice vB lB dB, .slice vM lM dM, .slice vP lP dP] := lh.dep 20 rfl; have e105 : q.tmps.getD 105 undef = .slice (pcut (some ⟨b1, off, none⟩) cd k) 2 (cd - k) := lh.dep 25 rfl; show Calls Try.prog 16 #[q.tmps.getD 100 undef, q.tmps.getD 105 undef] u _; rw [e100, e105]; exact bool_fact (FT.out u (B8.out.trans (lh.below.mono B8.out.size)))⟩) ?_
        refine .cons (owes_value fun q u lh => ⟨lh.wants1 19 false rfl rfl rfl, .bool false, by have e106 : q.tmps.getD 106 undef = .bool true := lh.dep 26 rfl; simp [execOp, Act.eval, e106, go_sem], rfl⟩) ?_
        refine .cons (owes_pick (.tmp 99) (.const (.bool true)) (.tmp 107) rfl fun q u lh => ⟨wants_free rfl, false, lh.dep 19 rfl, lh.dep 27 rfl⟩) ?_
        refine .cons (owes_move (.tmp 108) (.inl rfl) fun q u lh => ⟨wants_free rfl, lh.dep 28 rfl⟩) ?_
        refine .cons (owes_move (.tmp 19) (.inl rfl) fun q u lh => ⟨lh.wants1 29 false rfl rfl rfl, lh.old 19 rfl⟩) ?_
        refine .cons (owes_value fun q u lh => ⟨lh.wants1 29 false rfl rfl rfl, .bool false, by have e110 : q.tmps.getD 110 undef = .int .i64 0 := lh.dep 30 rfl; simp [execOp, Act.eval, e110, go_sem], rfl⟩) ?_
        refine .cons (owes_pick (.tmp 109) (.const (.bool true)) (.tmp 111) rfl fun q u lh => ⟨wants_free rfl, false, lh.dep 29 rfl, lh.dep 31 rfl⟩) ?_
        refine .cons (owes_move (.tmp 112) (.inl rfl) fun q u lh => ⟨wants_free rfl, lh.dep 32 rfl⟩) ?_
        refine .cons (owes_move (.tmp 12) (.inl rfl) fun q u lh => ⟨lh.wants1 33 false rfl rfl rfl, lh.old 12 rfl⟩) ?_
        refine .cons (owes_value fun q u lh => ⟨lh.wants1 33 false rfl rfl rfl, .pointer (some ⟨gp, 0, none⟩), by have e16 : q.tmps.getD 16 undef = .pointer (some ⟨gp, 0, none⟩) := lh.old 16 rfl; simp [execOp, Act.eval, e16, go_sem], rfl⟩) ?_
        refine .cons (owes_value fun q u lh => ⟨lh.wants1 33 false rfl rfl rfl, .int .i64 x0, by have e115 : q.tmps.getD 115 undef = .pointer (some ⟨gp, 0, none⟩) := lh.dep 35 rfl; obtain ⟨z0, z1, z2, z3, z4, z5, z6⟩ := (A8.out.below lh.below).at7; simp only [P7.id, P7.fr, P7.to, P7.am, P7.cl, P7.st, P7.ti] at z0; simp [execOp, Act.eval, e115, z0, go_sem], rfl⟩) ?_
        refine .cons (owes_call 17 Try.func17 (by kernel_rfl) (by kernel_rfl) [.tmp 114, .tmp 116] #[23, 2] rfl fun q u lh => ⟨lh.wants1 33 false rfl rfl rfl, by have e114 : q.tmps.getD 114 undef = .slice al nl cl := lh.dep 34 rfl; have e116 : q.tmps.getD 116 undef = .int .i64 x0 := lh.dep 36 rfl; show Calls Try.prog 17 #[q.tmps.getD 114 undef, q.tmps.getD 116 undef] u _; rw [e114, e116]; exact int_fact (FD1.out u (B8.out.trans (lh.below.mono B8.out.size)))⟩) ?_
        refine .cons (owes_value fun q u lh => ⟨lh.wants1 33 false rfl rfl rfl, .bool false, by have e117 : q.tmps.getD 117 undef = .int .i64 V1 := lh.dep 37 rfl; simp [execOp, Act.eval, e117, HV1.out, go_sem], rfl⟩) ?_
        refine .cons (owes_pick (.tmp 113) (.const (.bool true)) (.tmp 118) rfl fun q u lh => ⟨wants_free rfl, false, lh.dep 33 rfl, lh.dep 38 rfl⟩) ?_
        refine .cons (owes_move (.tmp 119) (.inl rfl) fun q u lh => ⟨wants_free rfl, lh.dep 39 rfl⟩) ?_
        refine .cons (owes_move (.tmp 12) (.inl rfl) fun q u lh => ⟨lh.wants1 40 false rfl rfl rfl, lh.old 12 rfl⟩) ?_
        refine .cons (owes_value fun q u lh => ⟨lh.wants1 40 false rfl rfl rfl, .pointer (some ⟨gq, 0, none⟩), by have e17 : q.tmps.getD 17 undef = .pointer (some ⟨gq, 0, none⟩) := lh.old 17 rfl; simp [execOp, Act.eval, e17, go_sem], rfl⟩) ?_
        refine .cons (owes_value fun q u lh => ⟨lh.wants1 40 false rfl rfl rfl, .int .i64 y0, by have e122 : q.tmps.getD 122 undef = .pointer (some ⟨gq, 0, none⟩) := lh.dep 42 rfl; obtain ⟨z0, z1, z2, z3, z4, z5, z6⟩ := (C8.out.below lh.below).at7; simp only [P7.id, P7.fr, P7.to, P7.am, P7.cl, P7.st, P7.ti] at z0; simp [execOp, Act.eval, e122, z0, go_sem], rfl⟩) ?_
        refine .cons (owes_call 17 Try.func17 (by kernel_rfl) (by kernel_rfl) [.tmp 121, .tmp 123] #[23, 2] rfl fun q u lh => ⟨lh.wants1 40 false rfl rfl rfl, by have e121 : q.tmps.getD 121 undef = .slice al nl cl := lh.dep 41 rfl; have e123 : q.tmps.getD 123 undef = .int .i64 y0 := lh.dep 43 rfl; show Calls Try.prog 17 #[q.tmps.getD 121 undef, q.tmps.getD 123 undef] u _; rw [e121, e123]; exact int_fact (FD2.out u (B8.out.trans (lh.below.mono B8.out.size)))⟩) ?_
        refine .cons (owes_value fun q u lh => ⟨lh.wants1 40 false rfl rfl rfl, .bool false, by have e124 : q.tmps.getD 124 undef = .int .i64 V2 := lh.dep 44 rfl; simp [execOp, Act.eval, e124, HV2.out, go_sem], rfl⟩) ?_
        refine .cons (owes_pick (.tmp 120) (.const (.bool true)) (.tmp 125) rfl fun q u lh => ⟨wants_free rfl, false, lh.dep 40 rfl, lh.dep 45 rfl⟩) ?_
        exact .nil _
      intro q u hb hsz hdf hold hfact
      obtain rfl := frame_puts hsz hdf [80, 81, 82, 83, 84, 85, 86, 87, 88, 89, 90, 91, 92, 93, 94, 95, 96, 97, 98, 99, 100, 101, 102, 103, 104, 105, 106, 107, 108, 109, 110, 111, 112, 113, 114, 115, 116, 117, 118, 119, 120, 121, 122, 123, 124, 125, 126] hold [(80, Value.pointer (some ⟨gp, 1, none⟩)), (81, Value.int .i64 y2), (82, Value.pointer (some ⟨gq, 2, none⟩)), (83, Value.int .i64 y2), (84, Value.bool false), (85, Value.bool false), (86, Value.pointer (some ⟨gp, 2, none⟩)), (87, Value.int .i64 y1), (88, Value.pointer (some ⟨gq, 1, none⟩)), (89, Value.int .i64 y1), (90, Value.bool false), (91, Value.bool false), (92, Value.bool false), (93, Value.pointer (some ⟨gp, 1, none⟩)), (94, Value.int .i64 y2), (95, Value.pointer (some ⟨gq, 1, none⟩)), (96, Value.int .i64 y1), (97, Value.bool false), (98, Value.bool false), (99, Value.bool false), (100, Value.agg #[.slice vA lA dA, .slice vB lB dB, .slice vM lM dM, .slice vP lP dP]), (101, Value.slice (some ⟨b1, off, none⟩) nd cd), (102, Value.int .i64 k), (103, Value.int .i64 k), (104, Value.int .i64 (k + 2)), (105, Value.slice (pcut (some ⟨b1, off, none⟩) cd k) 2 (cd - k)), (106, Value.bool true), (107, Value.bool false), (108, Value.bool false), (109, Value.bool false), (110, Value.int .i64 0), (111, Value.bool false), (112, Value.bool false), (113, Value.bool false), (114, Value.slice al nl cl), (115, Value.pointer (some ⟨gp, 0, none⟩)), (116, Value.int .i64 x0), (117, Value.int .i64 V1), (118, Value.bool false), (119, Value.bool false), (120, Value.bool false), (121, Value.slice al nl cl), (122, Value.pointer (some ⟨gq, 0, none⟩)), (123, Value.int .i64 y0), (124, Value.int .i64 V2), (125, Value.bool false), (126, Value.bool false)] ⟨hfact 0 (by decide), hfact 1 (by decide), hfact 2 (by decide), hfact 3 (by decide), hfact 4 (by decide), hfact 5 (by decide), hfact 6 (by decide), hfact 7 (by decide), hfact 8 (by decide), hfact 9 (by decide), hfact 10 (by decide), hfact 11 (by decide), hfact 12 (by decide), hfact 13 (by decide), hfact 14 (by decide), hfact 15 (by decide), hfact 16 (by decide), hfact 17 (by decide), hfact 18 (by decide), hfact 19 (by decide), hfact 20 (by decide), hfact 21 (by decide), hfact 22 (by decide), hfact 23 (by decide), hfact 24 (by decide), hfact 25 (by decide), hfact 26 (by decide), hfact 27 (by decide), hfact 28 (by decide), hfact 29 (by decide), hfact 30 (by decide), hfact 31 (by decide), hfact 32 (by decide), hfact 33 (by decide), hfact 34 (by decide), hfact 35 (by decide), hfact 36 (by decide), hfact 37 (by decide), hfact 38 (by decide), hfact 39 (by decide), hfact 40 (by decide), hfact 41 (by decide), hfact 42 (by decide), hfact 43 (by decide), hfact 44 (by decide), hfact 45 (by decide), hfact 46 (by decide), trivial⟩ rfl
      clear hsz hdf hold hfact
      simp only [puts, Act.put, List.setIfInBounds_toArray, List.set_cons_zero, List.set_cons_succ]
      obtain ⟨w9, rfl⟩ : ∃ z, z = u := ⟨u, rfl⟩
      have XS9 : Hid (XSt w5 w9 ⟨vA, lA, dA, vB, lB, dB, vM, lM, dM, vP, lP, dP⟩ b' none 0 0 []) := XS8.out.below hb
      have V9 : Hid (BVar w9 zy ⟨gA, hA, iA, gB, hB, iB, gM, hM, iM, gP, hP, iP⟩) := VY.out.below hb
      have N9 : Hid (NewBk w9 w5.heap.size ⟨gA, hA, iA, gB, hB, iB, gM, hM, iM, gP, hP, iP⟩ Q) := N8.out.below hb
      have SS := XS9.out.step (Below.refl _ _) N9.out HQD.out.2 (PGood.nil _) Que.nil
      have hbox := XS9.out.box
      rw [HZX.out] at SS hbox
      have ST : Hid (XSt w5 (w9.setRow zx #[.slice gA hA iA, .slice gB hB iB, .slice gM hM iM, .slice gP hP iP]) ⟨gA, hA, iA, gB, hB, iB, gM, hM, iM, gP, hP, iP⟩ Q none 0 0 []) := SS
      have HQL : Hid (Que l2) := HQD.out.1
      clear hb SS N9 FT FD1 FD2 HV1 HV2 HGE A8 C8 XS8 XB8 VY N8 B8 HQD
      go_upto_region 15 with fail
      obtain ⟨p0, p1, p2, p3⟩ := V9.out.box
      replace p0 : w9.cell? ⟨zy, 0, none⟩ = some (.slice gA hA iA) := p0
      replace p1 : w9.cell? ⟨zy, 1, none⟩ = some (.slice gB hB iB) := p1
      replace p2 : w9.cell? ⟨zy, 2, none⟩ = some (.slice gM hM iM) := p2
      replace p3 : w9.cell? ⟨zy, 3, none⟩ = some (.slice gP hP iP) := p3
      go_upto_region 10 with (refine store_books rfl _ _ rfl zx ⟨gA, hA, iA, gB, hB, iB, gM, hM, iM, gP, hP, iP⟩ rfl rfl _ hbox rfl ?_)
      clear hbox p0 p1 p2 p3 XS9 V9
      generalize w9.setRow zx #[.slice gA hA iA, .slice gB hB iB, .slice gM hM iM, .slice gP hP iP] = wb at ST ⊢
      go_wp2
      go_roundw
      case rel => exact ⟨k + 2, _, Q, l2, by omega, by go_num, ST, HQL, HN⟩
      case measure => simp [intOf]; omega
    | nil =>
      have hs2 : b' = R.1 := hs2
      have hs3 : l' = R.2.1 := hs3
      have hs1 : nextQ b' l' t = none := hs1
      have hdl : ¬ (k : Int) + 1 < (nd : Int) := by
        have h1 : (R.2.2.drop k).length = 0 := by rw [← hs4]; rfl
        rw [List.length_drop] at h1
        have := E5.out.1.len
        omega
      have hll := L5.out.1.len
      have NX := refNextQ_any ⟨yA, mA, eA, yB, mB, eB, yM, mM, eM, yP, mP, eP⟩ R.1 al nl cl R.2.1 t wr (K5.out.1.below XS.out.low) K5.out.2 (L5.out.1.below XS.out.low) (by have := L5.out.2.1; omega) L5.out.2.2
      rw [← hs2, ← hs3, hs1] at NX
      subst hs2 hs3
      obtain ⟨p0, p1, p2, p3⟩ := Y5.out.below XS.out.low
      replace p0 : wr.cell? ⟨j, 0, none⟩ = some (.slice yA mA eA) := p0
      replace p1 : wr.cell? ⟨j, 1, none⟩ = some (.slice yB mB eB) := p1
      replace p2 : wr.cell? ⟨j, 2, none⟩ = some (.slice yM mM eM) := p2
      replace p3 : wr.cell? ⟨j, 3, none⟩ = some (.slice yP mP eP) := p3
      clear hs1 hs4 hll HS
      go_wp2_with fail
      go_at_call 10
      refine NX.mono ?_
      rintro e w7 ⟨he, hb⟩
      have he : e = .returned (.tuple #[.agg #[.int .i64 0, .int .i64 0, .int .i64 0, .int .i64 0, .int .i64 0, .int .i64 0, .int .i64 0], .agg #[.int .i64 0, .int .i64 0, .int .i64 0, .int .i64 0, .int .i64 0, .int .i64 0, .int .i64 0], .bool false]) := he
      subst he
      obtain ⟨w8, hw8⟩ : ∃ w8, w8 = (w7.alloc (.cells #[.int .i64 0, .int .i64 0, .int .i64 0, .int .i64 0, .int .i64 0, .int .i64 0, .int .i64 0] 31)).alloc (.cells #[.int .i64 0, .int .i64 0, .int .i64 0, .int .i64 0, .int .i64 0, .int .i64 0, .int .i64 0] 31) := ⟨_, rfl⟩
      have b8 : Below wr.heap.size wr w8 := by rw [hw8]; exact hb.trans (((box_below _ _).alloc (box_below _ _).size _).mono hb.size)
      have XS8 : Hid (XSt w5 w8 ⟨vA, lA, dA, vB, lB, dB, vM, lM, dM, vP, lP, dP⟩ R.1 none 0 0 []) := XS.out.below b8
      clear NX hb b8 p0 p1 p2 p3 XS XB
      go_upto_region 17 with fail
      rw [← hw8]
      clear hw8
      have BW8 : Hid (Below w.heap.size w w8) := BW5.out.trans (XS8.out.low.mono BW5.out.size)
      have S1 := refSame_any ⟨yA, mA, eA, yB, mB, eB, yM, mM, eM, yP, mP, eP⟩ ⟨vA, lA, dA, vB, lB, dB, vM, lM, dM, vP, lP, dP⟩ R.1 R.1 w8 (K5.out.1.below XS8.out.low) XS8.out.bks
      rw [show sameB R.1 R.1 = true from sameB_yes.2 rfl] at S1
      obtain ⟨p0, p1, p2, p3⟩ := Y5.out.below XS8.out.low
      replace p0 : w8.cell? ⟨j, 0, none⟩ = some (.slice yA mA eA) := p0
      replace p1 : w8.cell? ⟨j, 1, none⟩ = some (.slice yB mB eB) := p1
      replace p2 : w8.cell? ⟨j, 2, none⟩ = some (.slice yM mM eM) := p2
      replace p3 : w8.cell? ⟨j, 3, none⟩ = some (.slice yP mP eP) := p3
      have XB : BVar w8 zx ⟨vA, lA, dA, vB, lB, dB, vM, lM, dM, vP, lP, dP⟩ := by rw [← HZX.out]; exact XS8.out.box
      obtain ⟨o0, o1, o2, o3⟩ := XB.box
      replace o0 : w8.cell? ⟨zx, 0, none⟩ = some (.slice vA lA dA) := o0
      replace o1 : w8.cell? ⟨zx, 1, none⟩ = some (.slice vB lB dB) := o1
      replace o2 : w8.cell? ⟨zx, 2, none⟩ = some (.slice vM lM dM) := o2
      replace o3 : w8.cell? ⟨zx, 3, none⟩ = some (.slice vP lP dP) := o3
      clear XB
      go_wp2_with fail
      go_at_call 18
      refine S1.mono ?_
      rintro e w9 ⟨rfl, hb⟩
      have BW9 : Hid (Below w.heap.size w w9) := BW8.out.trans (hb.mono BW8.out.size)
      have KK := KN.out w9
      clear S1 hb p0 p1 p2 p3 o0 o1 o2 o3
      go_wp2_with fail
      go_at_call 14
      refine KK.mono ?_
      rintro e wb ⟨rfl, hb⟩
      have BWb : Hid (Below w.heap.size w wb) := BW9.out.trans (hb.mono BW9.out.size)
      clear KK hb
      go_wp2
      go_ret
      exact ⟨rfl, BWb.out⟩

end Go.Proofs.Ytajmbcbochjfmaa
