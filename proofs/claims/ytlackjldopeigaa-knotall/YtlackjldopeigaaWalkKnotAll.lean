/-
  The walk of KnotAll.
-/
import Derived.Test.YtlackjldopeigaaKnotRun
import Derived.Test.YtlackjldopeigaaKnotEnds
import Derived.Test.YtlackjldopeigaaPostAll
import Derived.Test.YtlackjldopeigaaKnown20
import Derived.Test.YtlackjldopeigaaLawSame
import Derived.Test.YtlackjldopeigaaFitsRowed
import Derived.Test.YtlackjldopeigaaPostPure
import Derived.Test.YtlackjldopeigaaRowRefs
import Derived.Test.YtlackjldopeigaaRowBase
import Derived.Test.YtlackjldopeigaaLimOne
namespace Go.Proofs.Ytlackjldopeigaa
open Go.RowKit
set_option linter.unusedVariables false
set_option linter.unusedSimpArgs false

set_option maxHeartbeats 16000000 in
set_option maxRecDepth 100000 in
theorem Walk.knotAll (ah : Option Addr) (nh ch : Nat) (zh : List Int) (way : Int) (a : Option Addr) (n c : Nat) (L : List P7) (t : Int) (w : World) (h0 : Walk.IsRow .i64 w ah nh ch zh) (hway : (Lit.int .i64 way).wf = true) (hp : PaysIn w a n c L) (htw : (Lit.int .i64 t).wf = true) :
    Calls Try.prog 6 #[.slice ah nh ch, .int .i64 way, .slice a n c, .int .i64 t] w fun e w' => e = .returned (.bool true) ∧ Below w.heap.size w w' := by
  rcases Nat.lt_or_ge 30 n with h30 | h30
  · have h1 : (30 : Int) < (n : Int) := by omega
    clear h0 hway hp h30 htw
    go_enter Try.func6, Try.ntmps6
    go_wp2
    go_ret
    exact ⟨rfl, Below.refl _ _⟩
  have h1 : (n : Int) ≤ 30 := by omega
  obtain ⟨hsl, hcap, hmax⟩ := h0.sl fun n hn => by
    simp only [Lit.wf, Bool.and_eq_true, decide_eq_true_eq] at hn
    exact i64_wf hn.1 hn.2
  have S := some_any ah nh ch (zh.take nh) way w hsl (by omega)
  have HN30 : Hid (n ≤ 30) := h30
  have HG : Hid (PGood w a n c L) := hp.good
  have HL : Hid (n = L.length) := hp.good.len
  obtain ⟨hq, hlen, hall⟩ := rowed_ok (L := L) (by have := HL.out; omega)
  have HR : Hid ((rowedL L).length = n) := by show _ = _; rw [hlen, HL.out]
  have HQ : Hid (Que (rowedL L)) := hq
  have HP : Hid (∀ p ∈ rowedL L, RowedP L.length p) := hall
  have HAK : Hid (∀ p ∈ rowedL L, 0 ≤ p.am) := fun p hp => (rowed_am hall p hp).1
  have PE : Hid (postE (someK (zh.take nh) (bitB way 1) (bitB way 2) (bitB way 4)) (vReady (rowedL L) t) = 0) := (post_rowed _ _ _ _ (fun p hp => hall p (ready_mem hp)) (by have := ready_len (rowedL L) t; have := HL.out; omega)).2.1
  obtain ⟨kb, hkb⟩ : ∃ kb, someK (zh.take nh) (bitB way 1) (bitB way 2) (bitB way 4) = kb := ⟨_, rfl⟩
  rw [hkb] at S
  have GB : Hid (Good kb) := by rw [← hkb]; exact good_some _ _ _ _
  have K3 : Hid (kb.A.length = 3) := by rw [← hkb]; rfl
  have AK : Hid (allB kb (rowedL L) = true) := rowed_all K3.out (by have := HR.out; omega) hall
  have RW := fun u (hu : Below w.heap.size w u) => rowed_any a n c L u (HG.out.below hu) (by omega)
  have KN : Hid (∀ u, Calls Try.prog 16 #[] u fun e w' => e = .returned (.bool true) ∧ Below u.heap.size u w') := known20
  rw [hkb] at PE
  clear hkb hsl h0 hlen hp hway htw hall hq h30
  go_enter Try.func6, Try.ntmps6
  go_wp2_with fail
  go_at_call 9
  refine S.mono ?_
  rintro e w1 ⟨yb, rfl, nb, bel⟩
  have B1 : Hid (Below w.heap.size w w1) := bel
  have N1 : Hid (Bk w1 yb kb) := nb.bk
  have R := RW w1 bel
  clear S nb bel RW
  go_wp2_with fail
  go_at_call 10
  refine R.mono ?_
  rintro e w2 ⟨ar, cr, rfl, gr, hb⟩
  have BW2 : Hid (Below w.heap.size w w2) := B1.out.trans (hb.mono B1.out.size)
  have N2 : Hid (Bk w2 yb kb) := N1.out.below hb
  have G2 : Hid (PGood w2 ar n cr (rowedL L)) := by rw [← HR.out]; exact gr
  rw [HR.out]
  clear hb R N1 B1 gr
  obtain ⟨aA, nA, cA, aB, nB, cB, aM, nM, cM, aP, nP, cP⟩ := yb
  obtain ⟨w3, hw3⟩ : ∃ w3, w3 = w2.alloc (.cells #[.slice aA nA cA, .slice aB nB cB, .slice aM nM cM, .slice aP nP cP] 27) := ⟨_, rfl⟩
  obtain ⟨z, hz⟩ : ∃ z, w2.heap.size = z := ⟨_, rfl⟩
  have BW3 : Hid (Below w.heap.size w w3) := by rw [hw3]; exact BW2.out.alloc BW2.out.size _
  have X3 : Hid (Box4 w3 z ⟨aA, nA, cA, aB, nB, cB, aM, nM, cM, aP, nP, cP⟩) := by rw [hw3, ← hz]; exact Box4.new w2 ⟨aA, nA, cA, aB, nB, cB, aM, nM, cM, aP, nP, cP⟩ _ _
  have N3 : Hid (Bk w3 ⟨aA, nA, cA, aB, nB, cB, aM, nM, cM, aP, nP, cP⟩ kb) := by rw [hw3]; exact N2.out.below (box_below _ _)
  have G3 : Hid (PGood w3 ar n cr (rowedL L)) := by rw [hw3]; exact G2.out.below (box_below _ _)
  clear N2 G2 BW2
  obtain ⟨rl, hrl⟩ : ∃ rl, (vReady (rowedL L) t).length = rl := ⟨_, rfl⟩
  have HRL : Hid (rl ≤ n ∧ (vReady (rowedL L) t).length = rl) := ⟨by have := ready_len (rowedL L) t; have := HR.out; omega, hrl⟩
  have RY := (refVReady_any ar n cr (rowedL L) t w3 G3.out (by have := HN30.out; omega)).mono fun _ _ h => h.num hrl
  have FI : Hid (∀ a' c' u, Below w3.heap.size w3 u → PGood u a' rl c' (vReady (rowedL L) t) → Calls Try.prog 21 #[.agg #[.slice aA nA cA, .slice aB nB cB, .slice aM nM cM, .slice aP nP cP], .slice a' rl c'] u fun e w' => e = .returned (.bool (fitsB kb (vReady (rowedL L) t))) ∧ Below u.heap.size u w') := fun a' c' u hu hg => refFFits_any ⟨aA, nA, cA, aB, nB, cB, aM, nM, cM, aP, nP, cP⟩ kb a' rl c' _ u (N3.out.below hu) GB.out hg
  have F1 : Hid (∀ u, Below w3.heap.size w3 u → Calls Try.prog 11 #[.agg #[.slice aA nA cA, .slice aB nB cB, .slice aM nM cM, .slice aP nP cP], .slice ar n cr, .int .i64 t] u (MostEndN u (mostK kb (vReady (rowedL L) t)).1 (mostK kb (vReady (rowedL L) t)).2 3)) := fun u hu => (knotMost_any ⟨aA, nA, cA, aB, nB, cB, aM, nM, cM, aP, nP, cP⟩ kb ar n cr _ t u (N3.out.below hu) GB.out (G3.out.below hu) (ready_all t AK.out) (by have := HN30.out; omega)).mono fun _ _ h => h.num (by rw [mostK_len, K3.out])
  have F3 : Hid (∀ u, Below w3.heap.size w3 u → Calls Try.prog 13 #[.agg #[.slice aA nA cA, .slice aB nB cB, .slice aM nM cM, .slice aP nP cP], .slice ar n cr, .int .i64 t] u (FreeEnd u (knotR kb (rowedL L) t))) := fun u hu => knotRun_any ⟨aA, nA, cA, aB, nB, cB, aM, nM, cM, aP, nP, cP⟩ kb ar n cr _ t u (N3.out.below hu) GB.out (G3.out.below hu) HQ.out AK.out
  have PO : Hid (∀ a' c' u, Below w3.heap.size w3 u → PGood u a' rl c' (vReady (rowedL L) t) → Calls Try.prog 24 #[.agg #[.slice aA nA cA, .slice aB nB cB, .slice aM nM cM, .slice aP nP cP], .slice a' rl c'] u (RefPostNew u kb (vReady (rowedL L) t))) := fun a' c' u hu hg => refPost_new ⟨aA, nA, cA, aB, nB, cB, aM, nM, cM, aP, nP, cP⟩ kb a' rl c' _ u (N3.out.below hu) GB.out hg
  have HF : Hid (fitsB kb (vReady (rowedL L) t) = true → (mostK kb (vReady (rowedL L) t)).2 = 1 ∧ knotR kb (rowedL L) t = (postR kb (vReady (rowedL L) t), dropAll (rowedL L) (vReady (rowedL L) t), vReady (rowedL L) t) ∧ (dropAll (rowedL L) (vReady (rowedL L) t)).length + rl = n) := fun h => by
    obtain ⟨e1, e2⟩ := knotM_all h
    refine ⟨e2, ?_, ?_⟩
    · rw [knotR_yes (by rw [e1]; exact PE.out), e1]
    · rw [← hrl, ← HR.out]
      exact dropAll_len (ready_ids HQ.out t) (fun p hp => ready_mem hp)
  generalize knotR kb (rowedL L) t = R at F3 HF
  generalize (mostK kb (vReady (rowedL L) t)).1 = M at F1
  generalize (mostK kb (vReady (rowedL L) t)).2 = N at F1 HF
  generalize dropAll (rowedL L) (vReady (rowedL L) t) = DL at HF
  clear hrl
  generalize vReady (rowedL L) t = RR at RY FI PO HF PE HRL
  obtain ⟨q, hq⟩ : ∃ q, fitsB kb RR = q := ⟨_, rfl⟩
  rw [hq] at FI HF
  clear hq HR HG HL HQ N3 G3 GB HP HAK K3 AK
  go_upto_region 4 with fail
  rw [← hw3]
  clear hw3
  try rw [hz]
  clear hz
  go_wp2_with fail
  go_at_call 20
  refine RY.mono ?_
  rintro e w4 ⟨a4, c4, rfl, hg, -, hb⟩
  have D4 : Hid (Below w3.heap.size w3 w4) := hb
  have G4 : Hid (PGood w4 a4 rl c4 RR) := hg
  have CC := FI.out a4 c4 w4 hb hg
  clear hg hb RY FI
  obtain ⟨p0, p1, p2, p3⟩ := X3.out.below D4.out
  replace p0 : w4.cell? ⟨z, 0, none⟩ = some (.slice aA nA cA) := p0
  replace p1 : w4.cell? ⟨z, 1, none⟩ = some (.slice aB nB cB) := p1
  replace p2 : w4.cell? ⟨z, 2, none⟩ = some (.slice aM nM cM) := p2
  replace p3 : w4.cell? ⟨z, 3, none⟩ = some (.slice aP nP cP) := p3
  go_wp2_with fail
  go_at_call 21
  refine CC.mono ?_
  rintro e w5 ⟨rfl, hb⟩
  have D5 : Hid (Below w3.heap.size w3 w5) := D4.out.trans (hb.mono D4.out.size)
  have G5 : Hid (PGood w5 a4 rl c4 RR) := G4.out.below hb
  clear hb CC D4 G4 p0 p1 p2 p3
  cases q with
  | false =>
    go_wp2
    go_ret
    exact ⟨rfl, BW3.out.trans (D5.out.mono BW3.out.size)⟩
  | true =>
  obtain ⟨rfl, hR, hdl⟩ := HF.out rfl
  subst hR
  obtain ⟨nd0, hnd0⟩ : ∃ nd0, DL.length = nd0 := ⟨_, rfl⟩
  rw [hnd0] at hdl
  have HDL : Hid (DL.length = nd0 ∧ nd0 + rl = n) := ⟨hnd0, hdl⟩
  clear HF hdl hnd0
  have CC := F1.out w5 D5.out
  obtain ⟨p0, p1, p2, p3⟩ := X3.out.below D5.out
  replace p0 : w5.cell? ⟨z, 0, none⟩ = some (.slice aA nA cA) := p0
  replace p1 : w5.cell? ⟨z, 1, none⟩ = some (.slice aB nB cB) := p1
  replace p2 : w5.cell? ⟨z, 2, none⟩ = some (.slice aM nM cM) := p2
  replace p3 : w5.cell? ⟨z, 3, none⟩ = some (.slice aP nP cP) := p3
  go_wp2_with fail
  go_at_call 11
  refine CC.mono ?_
  rintro e w6 ⟨g1, c1, rfl, -, hb⟩
  have D6 : Hid (Below w3.heap.size w3 w6) := D5.out.trans (hb.mono D5.out.size)
  have G6 : Hid (PGood w6 a4 rl c4 RR) := G5.out.below hb
  clear hb CC F1 D5 G5 p0 p1 p2 p3
  have CC := F3.out w6 D6.out
  obtain ⟨p0, p1, p2, p3⟩ := X3.out.below D6.out
  replace p0 : w6.cell? ⟨z, 0, none⟩ = some (.slice aA nA cA) := p0
  replace p1 : w6.cell? ⟨z, 1, none⟩ = some (.slice aB nB cB) := p1
  replace p2 : w6.cell? ⟨z, 2, none⟩ = some (.slice aM nM cM) := p2
  replace p3 : w6.cell? ⟨z, 3, none⟩ = some (.slice aP nP cP) := p3
  go_wp2_with fail
  go_at_call 13
  refine CC.mono ?_
  rintro e w8 ⟨y, al, nl, cl, ad, nd, cd, rfl, bk, -, gl, -, gd, -, hb⟩
  have hnl : nl = nd0 := gl.len.trans HDL.out.1
  subst hnl
  have hnd : nd = rl := gd.len.trans HRL.out.2
  subst hnd
  obtain ⟨yA, mA, eA, yB, mB, eB, yM, mM, eM, yP, mP, eP⟩ := y
  obtain ⟨w9, hw9⟩ : ∃ w9, w9 = w8.alloc (.cells #[.slice yA mA eA, .slice yB mB eB, .slice yM mM eM, .slice yP mP eP] 27) := ⟨_, rfl⟩
  obtain ⟨j, hj⟩ : ∃ j, w8.heap.size = j := ⟨_, rfl⟩
  have b89 : Below w8.heap.size w8 w9 := by rw [hw9]; exact box_below _ _
  have b9 : Below w6.heap.size w6 w9 := hb.trans (b89.mono hb.size)
  have D9 : Hid (Below w3.heap.size w3 w9) := D6.out.trans (b9.mono D6.out.size)
  have G9 : Hid (PGood w9 a4 nd c4 RR) := G6.out.below b9
  have Y9 : Hid (Box4 w9 j ⟨yA, mA, eA, yB, mB, eB, yM, mM, eM, yP, mP, eP⟩) := by rw [hw9, ← hj]; exact Box4.new w8 ⟨yA, mA, eA, yB, mB, eB, yM, mM, eM, yP, mP, eP⟩ _ _
  have K9 : Hid (Bk w9 ⟨yA, mA, eA, yB, mB, eB, yM, mM, eM, yP, mP, eP⟩ (postR kb RR)) := bk.below b89
  have E9 : Hid (PGood w9 ad nd cd RR) := gd.below b89
  clear CC hb b89 b9 bk gl gd p0 p1 p2 p3 F3 D6 G6
  go_upto_region 9 with fail
  rw [← hw9]
  clear hw9
  try rw [hj]
  clear hj
  have CC := PO.out a4 c4 w9 D9.out G9.out
  unfold RefPostNew at CC
  rw [PE.out] at CC
  obtain ⟨p0, p1, p2, p3⟩ := X3.out.below D9.out
  replace p0 : w9.cell? ⟨z, 0, none⟩ = some (.slice aA nA cA) := p0
  replace p1 : w9.cell? ⟨z, 1, none⟩ = some (.slice aB nB cB) := p1
  replace p2 : w9.cell? ⟨z, 2, none⟩ = some (.slice aM nM cM) := p2
  replace p3 : w9.cell? ⟨z, 3, none⟩ = some (.slice aP nP cP) := p3
  go_wp2_with fail
  go_at_call 24
  refine CC.mono ?_
  rintro e wa ⟨y, rfl, bk, -, hb⟩
  obtain ⟨vA, lA, dA, vB, lB, dB, vM, lM, dM, vP, lP, dP⟩ := y
  obtain ⟨wb, hwb⟩ : ∃ wb, wb = wa.alloc (.cells #[.slice vA lA dA, .slice vB lB dB, .slice vM lM dM, .slice vP lP dP] 27) := ⟨_, rfl⟩
  obtain ⟨i, hi⟩ : ∃ i, wa.heap.size = i := ⟨_, rfl⟩
  have b89 : Below wa.heap.size wa wb := by rw [hwb]; exact box_below _ _
  have b9 : Below w9.heap.size w9 wb := hb.trans (b89.mono hb.size)
  have BWb : Hid (Below w.heap.size w wb) := BW3.out.trans ((D9.out.trans (b9.mono D9.out.size)).mono BW3.out.size)
  have Yb : Hid (Box4 wb j ⟨yA, mA, eA, yB, mB, eB, yM, mM, eM, yP, mP, eP⟩) := Y9.out.below b9
  have Zb : Hid (Box4 wb i ⟨vA, lA, dA, vB, lB, dB, vM, lM, dM, vP, lP, dP⟩) := by rw [hwb, ← hi]; exact Box4.new wa ⟨vA, lA, dA, vB, lB, dB, vM, lM, dM, vP, lP, dP⟩ _ _
  have Eb : Hid (PGood wb ad nd cd RR) := E9.out.below b9
  have Gb : Hid (PGood wb a4 nd c4 RR) := G9.out.below b9
  have SS := refSame_any ⟨yA, mA, eA, yB, mB, eB, yM, mM, eM, yP, mP, eP⟩ ⟨vA, lA, dA, vB, lB, dB, vM, lM, dM, vP, lP, dP⟩ _ _ wb (K9.out.below b9) (bk.below b89)
  rw [show sameB (postR kb RR) (postR kb RR) = true from sameB_yes.2 rfl] at SS
  have hw : IntKind.i64.wrap ((n : Int) - (nd : Int)) = (nl : Int) := by
    have := HDL.out.2
    have := HN30.out
    rw [show (n : Int) - (nd : Int) = (nl : Int) from by omega]
    exact i64_wf (by omega) (by omega)
  clear CC hb b89 b9 bk p0 p1 p2 p3 PO D9 X3 BW3 Y9 K9 E9 G9
  go_upto_region 10 with fail
  rw [← hwb]
  clear hwb
  try rw [hi]
  clear hi
  obtain ⟨p0, p1, p2, p3⟩ := Yb.out
  replace p0 : wb.cell? ⟨j, 0, none⟩ = some (.slice yA mA eA) := p0
  replace p1 : wb.cell? ⟨j, 1, none⟩ = some (.slice yB mB eB) := p1
  replace p2 : wb.cell? ⟨j, 2, none⟩ = some (.slice yM mM eM) := p2
  replace p3 : wb.cell? ⟨j, 3, none⟩ = some (.slice yP mP eP) := p3
  obtain ⟨o0, o1, o2, o3⟩ := Zb.out
  replace o0 : wb.cell? ⟨i, 0, none⟩ = some (.slice vA lA dA) := o0
  replace o1 : wb.cell? ⟨i, 1, none⟩ = some (.slice vB lB dB) := o1
  replace o2 : wb.cell? ⟨i, 2, none⟩ = some (.slice vM lM dM) := o2
  replace o3 : wb.cell? ⟨i, 3, none⟩ = some (.slice vP lP dP) := o3
  go_wp2_with fail
  go_at_call 25
  refine SS.mono ?_
  rintro e wc ⟨rfl, hb⟩
  have Bc : Hid (Below w.heap.size w wc) := BWb.out.trans (hb.mono BWb.out.size)
  have S2 := same_true ad a4 nd nd cd c4 RR wc (Eb.out.below hb) (Gb.out.below hb)
  clear SS hb p0 p1 p2 p3 o0 o1 o2 o3
  go_wp2_with fail
  go_at_call 26
  refine S2.mono ?_
  rintro e wd ⟨rfl, hb⟩
  have Bd : Hid (Below w.heap.size w wd) := Bc.out.trans (hb.mono Bc.out.size)
  have KK := KN.out wd
  clear S2 hb
  go_wp2_with fail
  go_at_call 16
  refine KK.mono ?_
  rintro e we ⟨rfl, hb⟩
  have Be : Hid (Below w.heap.size w we) := Bd.out.trans (hb.mono Bd.out.size)
  clear KK hb
  go_wp2
  go_ret
  exact ⟨rfl, Be.out⟩

end Go.Proofs.Ytlackjldopeigaa
