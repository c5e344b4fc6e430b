/-
  giroref20.Run: the document's answer.
-/
import Derived.Test.YtlackjldopeigaaKnotRef
import Derived.Test.YtlackjldopeigaaKnotPure
import Derived.Test.YtlackjldopeigaaKnotEnds
import Derived.Test.YtlackjldopeigaaFreeSt
import Derived.Test.YtlackjldopeigaaPostAll
import Derived.Test.YtlackjldopeigaaRowRefs
namespace Go.Proofs.Ytlackjldopeigaa
open Go.RowKit
set_option linter.unusedVariables false
set_option linter.unusedSimpArgs false

set_option maxHeartbeats 16000000 in
set_option maxRecDepth 100000 in
theorem refRun20_any (x : BA) (b : Bks) (a : Option Addr) (n c : Nat) (L : List P7) (t : Int) (w : World) (hk : Bk w x b) (gd : Good b) (h : PGood w a n c L) (hq : Que L) (hA : allB b L = true) :
    Calls Try.prog 14 #[x.val, .slice a n c, .int .i64 t] w (FreeEnd w (knotR b L t)) := by
  have HL : Hid (n ≤ 40 ∧ n = L.length) := by have := h.len; have := hq.1; exact ⟨by omega, h.len⟩
  have HK : Hid (Bk w x b) := hk
  have HG : Hid (PGood w a n c L) := h
  have HQ : Hid (Que L ∧ Good b) := ⟨hq, gd⟩
  have HOFF : Hid (0 < n → ∀ y, a = some y → y.block < w.heap.size) := fun hn y hy => by
    obtain ⟨b1, o1, ha1, hc1⟩ := h.at hn
    have hx2 := ha1.symm.trans hy
    simp at hx2
    have hyb : y.block = b1 := by rw [← hx2]
    rw [hyb]
    exact block_lt_of_cell (hc1 0 hn).1
  obtain ⟨ml, hml⟩ : ∃ ml, (mostK b (vReady L t)).1.length = ml := ⟨_, rfl⟩
  obtain ⟨rl, hrl⟩ : ∃ rl, (vReady L t).length = rl := ⟨_, rfl⟩
  obtain ⟨nk, hnk⟩ : ∃ nk, (knotM b L t).length = nk := ⟨_, rfl⟩
  have ml6 : ml ≤ 6 := by rw [← hml, mostK_len]; exact gd.n6
  have hr40 : rl ≤ 40 := by have := ready_len L t; have := HL.out; omega
  have MO : Hid (∀ u, Below w.heap.size w u → Calls Try.prog 12 #[x.val, .slice a n c, .int .i64 t] u (MostEndN u (mostK b (vReady L t)).1 (mostK b (vReady L t)).2 ml)) := fun u hu => (refMost20_any x b a n c L t u (HK.out.below hu) gd (HG.out.below hu) (ready_all t hA) (by have := HL.out; omega)).mono fun _ _ h => h.num hml
  have RY : Hid (∀ u, Below w.heap.size w u → Calls Try.prog 20 #[.slice a n c, .int .i64 t] u (PEndN u (vReady L t) rl)) := fun u hu => (refVReady_any a n c L t u (HG.out.below hu) (by have := HL.out; omega)).mono fun _ _ h => h.num hrl
  have HD : Hid (∀ ar cr g cm u, PGood u ar rl cr (vReady L t) → IGood u (some ⟨g, 0, none⟩) ml cm (mostK b (vReady L t)).1 → Calls Try.prog 22 #[.slice ar rl cr, .slice (some ⟨g, 0, none⟩) ml cm] u (PEndN u (knotM b L t) nk)) := fun ar cr g cm u hg hm => (refVHeads_any ar (some ⟨g, 0, none⟩) rl cr ml cm (vReady L t) (intsL (mostK b (vReady L t)).1) u hg hm.sl (by omega) (by omega)).mono fun _ _ h => PEnd.num (K := knotM b L t) h hnk
  have PO : Hid (∀ ak ck u, Below w.heap.size w u → PGood u ak nk ck (knotM b L t) → Calls Try.prog 24 #[x.val, .slice ak nk ck] u (RefPostNew u b (knotM b L t))) := fun ak ck u hu hg => refPost_new x b ak nk ck (knotM b L t) u (HK.out.below hu) gd hg
  have HYES : Hid (postE b (knotM b L t) = 0 → knotR b L t = (postR b (knotM b L t), dropAll L (knotM b L t), knotM b L t)) := knotR_yes
  have HNO : Hid (¬ postE b (knotM b L t) = 0 → knotR b L t = (b, L, []) ∧ postR b (knotM b L t) = b) := fun h => ⟨knotR_no h, postR_err h⟩
  have HGP : Hid (Good (postR b (knotM b L t))) := postR_good gd _
  have HK40 : Hid (nk ≤ 40 ∧ (knotM b L t).length = nk) := ⟨by have := knotM_len b L t; have := HL.out; omega, hnk⟩
  generalize knotR b L t = R at HYES HNO ⊢
  clear hnk hml hrl ml6 hr40
  generalize knotM b L t = K at HD PO HYES HNO HGP HK40
  generalize (mostK b (vReady L t)).1 = M at MO HD
  generalize (mostK b (vReady L t)).2 = N at MO
  generalize vReady L t = RR at RY HD
  obtain ⟨aA, nA, cA, aB, nB, cB, aM, nM, cM, aP, nP, cP⟩ := x
  obtain ⟨w2, hw2⟩ : ∃ w2, w2 = (w.alloc (.cells #[.slice aA nA cA, .slice aB nB cB, .slice aM nM cM, .slice aP nP cP] 27)).alloc (.cells #[.slice none 0 0, .slice none 0 0, .slice none 0 0, .slice none 0 0] 27) := ⟨_, rfl⟩
  have B2 : Hid (Below w.heap.size w w2) := by rw [hw2]; exact (box_below _ _).alloc (box_below _ _).size _
  have X2 : Hid (BVar w2 w.heap.size ⟨aA, nA, cA, aB, nB, cB, aM, nM, cM, aP, nP, cP⟩) := by rw [hw2]; exact (BVar.new w ⟨aA, nA, cA, aB, nB, cB, aM, nM, cM, aP, nP, cP⟩).below (box_below _ _)
  have V2 : Hid (BVar w2 (w.heap.size + 1) ba0) := by
    rw [hw2]
    have := BVar.new (w.alloc (.cells #[.slice aA nA cA, .slice aB nB cB, .slice aM nM cM, .slice aP nP cP] 27)) ba0
    rw [size_alloc] at this
    exact this
  have CC := MO.out w2 B2.out
  clear hk gd h hq hA MO
  go_enter Try.func14, Try.ntmps14
  go_upto_region 1 with fail
  rw [← hw2]
  clear hw2
  obtain ⟨p0, p1, p2, p3⟩ := X2.out.box
  replace p0 : w2.cell? ⟨w.heap.size, 0, none⟩ = some (.slice aA nA cA) := p0
  replace p1 : w2.cell? ⟨w.heap.size, 1, none⟩ = some (.slice aB nB cB) := p1
  replace p2 : w2.cell? ⟨w.heap.size, 2, none⟩ = some (.slice aM nM cM) := p2
  replace p3 : w2.cell? ⟨w.heap.size, 3, none⟩ = some (.slice aP nP cP) := p3
  go_wp2_with fail
  go_at_call 12
  refine CC.mono ?_
  rintro e w3 ⟨g, cm, rfl, hm, hb⟩
  have B3 : Hid (Below w.heap.size w w3) := B2.out.trans (hb.mono B2.out.size)
  have X3 : Hid (BVar w3 w.heap.size ⟨aA, nA, cA, aB, nB, cB, aM, nM, cM, aP, nP, cP⟩) := X2.out.below hb
  have V3 : Hid (BVar w3 (w.heap.size + 1) ba0) := V2.out.below hb
  have M3 : Hid (IGood w3 (some ⟨g, 0, none⟩) ml cm M) := hm
  have CC := RY.out w3 B3.out
  clear hm hb RY X2 V2 B2 p0 p1 p2 p3
  go_wp2_with fail
  go_at_call 20
  refine CC.mono ?_
  rintro e w4 ⟨ar, cr, rfl, hg, -, hb⟩
  have B4 : Hid (Below w.heap.size w w4) := B3.out.trans (hb.mono B3.out.size)
  have X4 : Hid (BVar w4 w.heap.size ⟨aA, nA, cA, aB, nB, cB, aM, nM, cM, aP, nP, cP⟩) := X3.out.below hb
  have V4 : Hid (BVar w4 (w.heap.size + 1) ba0) := V3.out.below hb
  have CC := HD.out ar cr g cm w4 hg (M3.out.below hb)
  clear hg hb HD X3 V3 B3 M3
  go_wp2_with fail
  go_at_call 22
  refine CC.mono ?_
  rintro e w5 ⟨ak, ck, rfl, hg, hn, hb⟩
  have B5 : Hid (Below w.heap.size w w5) := B4.out.trans (hb.mono B4.out.size)
  have X5 : Hid (BVar w5 w.heap.size ⟨aA, nA, cA, aB, nB, cB, aM, nM, cM, aP, nP, cP⟩) := X4.out.below hb
  have V5 : Hid (BVar w5 (w.heap.size + 1) ba0) := V4.out.below hb
  have G5 : Hid (PGood w5 ak nk ck K) := hg
  have N5 : Hid (∀ x, ak = some x → w.heap.size + 2 ≤ x.block) := fun x hx => by have := hn x hx; have := V4.out.lt; omega
  clear hg hb hn X4 V4 B4 CC
  have CC := PO.out ak ck w5 B5.out G5.out
  obtain ⟨p0, p1, p2, p3⟩ := X5.out.box
  replace p0 : w5.cell? ⟨w.heap.size, 0, none⟩ = some (.slice aA nA cA) := p0
  replace p1 : w5.cell? ⟨w.heap.size, 1, none⟩ = some (.slice aB nB cB) := p1
  replace p2 : w5.cell? ⟨w.heap.size, 2, none⟩ = some (.slice aM nM cM) := p2
  replace p3 : w5.cell? ⟨w.heap.size, 3, none⟩ = some (.slice aP nP cP) := p3
  unfold RefPostNew at CC
  obtain ⟨er, her⟩ : ∃ er, postE b K = er := ⟨_, rfl⟩
  rw [her] at CC
  have HE : Hid (postE b K = er) := her
  clear her PO
  go_wp2_with fail
  go_at_call 24
  refine CC.mono ?_
  rintro e w6 ⟨y, rfl, -, nb, hb⟩
  obtain ⟨yA, mA, eA, yB, mB, eB, yM, mM, eM, yP, mP, eP⟩ := y
  obtain ⟨w7, hw7⟩ : ∃ w7, w7 = w6.alloc (.cells #[.slice yA mA eA, .slice yB mB eB, .slice yM mM eM, .slice yP mP eP] 27) := ⟨_, rfl⟩
  obtain ⟨z, hz⟩ : ∃ z, w6.heap.size = z := ⟨_, rfl⟩
  have b57 : Below w5.heap.size w5 w7 := by rw [hw7]; exact hb.trans ((box_below _ _).mono hb.size)
  have B7 : Hid (Below w.heap.size w w7) := B5.out.trans (b57.mono B5.out.size)
  have X7 : Hid (BVar w7 w.heap.size ⟨aA, nA, cA, aB, nB, cB, aM, nM, cM, aP, nP, cP⟩) := X5.out.below b57
  have V7 : Hid (BVar w7 (w.heap.size + 1) ba0) := V5.out.below b57
  have G7 : Hid (PGood w7 ak nk ck K) := G5.out.below b57
  have Z7 : Hid (BVar w7 z ⟨yA, mA, eA, yB, mB, eB, yM, mM, eM, yP, mP, eP⟩) := by rw [hw7, ← hz]; exact BVar.new w6 ⟨yA, mA, eA, yB, mB, eB, yM, mM, eM, yP, mP, eP⟩
  have HZ : Hid (w.heap.size + 2 ≤ z) := by have := V5.out.lt; have := hb.size; show w.heap.size + 2 ≤ z; omega
  have NB7 : Hid (er = 0 → NewBk w7 (w.heap.size + 2) ⟨yA, mA, eA, yB, mB, eB, yM, mM, eM, yP, mP, eP⟩ (postR b K)) := fun h => by rw [hw7]; exact ((nb h).below (box_below _ _)).base (by have := V5.out.lt; omega)
  clear CC nb hb b57 X5 V5 G5 B5 p0 p1 p2 p3
  go_upto_region 4 with fail
  rw [← hw7]
  clear hw7
  try rw [hz]
  clear hz
  by_cases h0 : er = 0
  · subst h0
    have HR := HYES.out HE.out
    subst HR
    clear HYES HNO HE X7
    go_wp2
    go_loopw [1, 14] (fun l i wr => ∃ (k : Nat) (a' : Option Addr) (n' c' : Nat), k ≤ nk ∧ l = .slice a' n' c' ∧ i = .int .i64 k ∧ Hid (PGood wr a' n' c' (dropAll L (K.take k))) ∧ Hid (0 < n' → ∀ x, a' = some x → x.block < w.heap.size ∨ w.heap.size + 2 ≤ x.block) ∧ Hid (Below w7.heap.size w7 wr)) (fun _ i _ => nk - (intOf i).toNat)
    case atStart => exact ⟨0, a, n, c, by omega, rfl, rfl, HG.out.below B7.out, fun hn x hx => .inl (HOFF.out hn x hx), Below.refl _ _⟩
    case round =>
      obtain ⟨k, a', n', c', hk, rfl, rfl, GR, OR, HB⟩ := hrel
      have n40 : n' ≤ 40 := by have h1 := GR.out.len; have h2 := dropAll_le L (K.take k); have := HL.out; omega
      have nk40 : (nk : Int) ≤ 40 := by have := HK40.out.1; omega
      by_cases hlt : k < nk
      · obtain ⟨bk, off, rfl, HC⟩ := G7.out.at hlt
        have i1 : (k : Int) < (nk : Int) := by omega
        have kw : IntKind.i64.wrap ((k : Int) + 1) = k + 1 := i64_wf (by omega) (by omega)
        have C0 := (HC k hlt).below HB.out
        have hcap := G7.out.cap
        have HT := dropAll_take (l := L) (m := K) (k := k) (by have := HK40.out.2; omega)
        obtain ⟨x, hx⟩ : ∃ x, K.getD k p70 = x := ⟨_, rfl⟩
        rw [hx] at C0 HT
        obtain ⟨x0, x1, x2, x3, x4, x5, x6⟩ := x
        rw [show P7.id (x0, x1, x2, x3, x4, x5, x6) = x0 from rfl] at HT
        obtain ⟨p0, p1, p2, p3, p4, p5, p6⟩ := C0
        simp only [P7.id, P7.fr, P7.to, P7.am, P7.cl, P7.st, P7.ti, Nat.zero_add] at p0 p1 p2 p3 p4 p5 p6
        obtain ⟨nq, hnq⟩ : ∃ nq, (qDrop (dropAll L (K.take k)) x0).length = nq := ⟨_, rfl⟩
        have DR := refDrop_new a' n' c' (dropAll L (K.take k)) x0 wr GR.out (by omega)
        unfold RDropNew at DR
        rw [hnq, ← HT] at DR
        obtain ⟨q7, hq7⟩ : ∃ q, qDropP (dropAll L (K.take k)) x0 = q := ⟨_, rfl⟩
        rw [hq7] at DR
        generalize qDropE (dropAll L (K.take k)) x0 = eq at DR
        obtain ⟨g0, g1, g2, g3, g4, g5, g6⟩ := q7
        clear HC hx HT hnq hq7 n40
        go_wp2_with fail
        go_at_call 37
        refine DR.mono ?_
        rintro e w8 ⟨a8, c8, rfl, hg8, hn8, hb⟩
        have B8 : Hid (Below w7.heap.size w7 w8) := HB.out.trans (hb.mono HB.out.size)
        have G8 : Hid (PGood w8 a8 nq c8 (dropAll L (K.take (k + 1)))) := hg8
        have O8 : Hid (0 < nq → ∀ x, a8 = some x → x.block < w.heap.size ∨ w.heap.size + 2 ≤ x.block) := fun hn x hx => by
          rcases hn8 with rfl | h8
          · rcases Nat.eq_zero_or_pos n' with h1 | h1
            · have h2 := GR.out.len
              have h3 := hg8.len
              exfalso
              have h4 : (dropAll L (K.take k)).length = 0 := by omega
              have h5 : (dropAll L (K.take (k + 1))).length ≤ (dropAll L (K.take k)).length := by
                rw [dropAll_take (by have := HK40.out.2; omega)]
                exact drop_le _ _
              omega
            · exact OR.out h1 x hx
          · refine .inr ?_
            have h1 := h8 x hx
            have h2 := HB.out.size
            have h3 := V7.out.lt
            omega
        clear DR hg8 hn8 hb p0 p1 p2 p3 p4 p5 p6 HB GR OR
        go_wp2
        go_roundw
        case rel => exact ⟨k + 1, a8, nq, c8, by omega, rfl, by go_num, G8, O8, B8⟩
        case measure => simp [intOf]; omega
      · obtain rfl : k = nk := by omega
        have hkk : K.take k = K := List.take_of_length_le (by have := HK40.out.2; omega)
        rw [hkk] at GR
        have BW : Hid (Below w.heap.size w wr) := B7.out.trans (HB.out.mono B7.out.size)
        have Z8 : Hid (BVar wr z ⟨yA, mA, eA, yB, mB, eB, yM, mM, eM, yP, mP, eP⟩) := Z7.out.below HB.out
        have hres := V7.out.below HB.out
        have RR : Hid (FreeEnd w (postR b K, dropAll L K, K) (.returned (.tuple #[BA.val ⟨yA, mA, eA, yB, mB, eB, yM, mM, eM, yP, mP, eP⟩, .slice a' n' c', .slice ak k ck])) (wr.setRow (w.heap.size + 1) #[.slice yA mA eA, .slice yB mB eB, .slice yM mM eM, .slice yP mP eP])) := by
          refine ⟨_, a', n', c', ak, k, ck, rfl, ?_, HGP.out, ?_, dropAll_que HQ.out.1 K, ?_, by have := HK40.out; show K.length ≤ 40; omega, Below.setRow BW.out (by omega) _⟩
          · exact (((NB7.out trivial).below HB.out).kept fun j hj => setRow_other wr (w.heap.size + 1) j _ (by have hj : w.heap.size + 2 ≤ j := hj; omega)).bk
          · exact GR.out.turn fun x hx hn => setRow_other wr (w.heap.size + 1) x.block _ (by have := OR.out hn x hx; omega)
          · exact (G7.out.below HB.out).turn fun x hx hn => setRow_other wr (w.heap.size + 1) x.block _ (by have := N5.out x hx; omega)
        have D : Hid (BVar (wr.setRow (w.heap.size + 1) #[.slice yA mA eA, .slice yB mB eB, .slice yM mM eM, .slice yP mP eP]) (w.heap.size + 1) ⟨yA, mA, eA, yB, mB, eB, yM, mM, eM, yP, mP, eP⟩) := hres.set ⟨yA, mA, eA, yB, mB, eB, yM, mM, eM, yP, mP, eP⟩
        obtain ⟨p0, p1, p2, p3⟩ := Z8.out.box
        replace p0 : wr.cell? ⟨z, 0, none⟩ = some (.slice yA mA eA) := p0
        replace p1 : wr.cell? ⟨z, 1, none⟩ = some (.slice yB mB eB) := p1
        replace p2 : wr.cell? ⟨z, 2, none⟩ = some (.slice yM mM eM) := p2
        replace p3 : wr.cell? ⟨z, 3, none⟩ = some (.slice yP mP eP) := p3
        clear hkk GR OR HB BW Z8 G7 Z7 V7 NB7 B7
        go_wp2_with (refine store_books rfl _ _ rfl (w.heap.size + 1) ⟨yA, mA, eA, yB, mB, eB, yM, mM, eM, yP, mP, eP⟩ rfl rfl _ hres rfl ?_)
        clear p0 p1 p2 p3 hres
        generalize wr.setRow (w.heap.size + 1) #[.slice yA mA eA, .slice yB mB eB, .slice yM mM eM, .slice yP mP eP] = wf at RR D ⊢
        obtain ⟨d0, d1, d2, d3⟩ := D.out.box
        go_wp2
        exact bodyPost_ret (v := .tuple #[BA.val ⟨yA, mA, eA, yB, mB, eB, yM, mM, eM, yP, mP, eP⟩, .slice a' n' c', .slice ak k ck]) (by simp [results, Try.results14, d0, d1, d2, d3, go_sem]) rfl RR.out
  · have HR := (HNO.out (fun h => h0 (HE.out.symm.trans h))).1
    subst HR
    have h1 : (er == 0) = false := by simpa using h0
    have h2 : (er != 0) = true := by simpa using h0
    have hres := V7.out
    have RR : Hid (FreeEnd w (b, L, []) (.returned (.tuple #[BA.val ⟨aA, nA, cA, aB, nB, cB, aM, nM, cM, aP, nP, cP⟩, .slice a n c, .slice none 0 0])) (w7.setRow (w.heap.size + 1) #[.slice aA nA cA, .slice aB nB cB, .slice aM nM cM, .slice aP nP cP])) := by
      have hb : Below w.heap.size w (w7.setRow (w.heap.size + 1) #[.slice aA nA cA, .slice aB nB cB, .slice aM nM cM, .slice aP nP cP]) := Below.setRow B7.out (by omega) _
      exact ⟨_, a, n, c, none, 0, 0, rfl, HK.out.below hb, HQ.out.2, HG.out.below hb, HQ.out.1, PGood.nil _, by simp, hb⟩
    have D : Hid (BVar (w7.setRow (w.heap.size + 1) #[.slice aA nA cA, .slice aB nB cB, .slice aM nM cM, .slice aP nP cP]) (w.heap.size + 1) ⟨aA, nA, cA, aB, nB, cB, aM, nM, cM, aP, nP, cP⟩) := hres.set ⟨aA, nA, cA, aB, nB, cB, aM, nM, cM, aP, nP, cP⟩
    obtain ⟨p0, p1, p2, p3⟩ := X7.out.box
    replace p0 : w7.cell? ⟨w.heap.size, 0, none⟩ = some (.slice aA nA cA) := p0
    replace p1 : w7.cell? ⟨w.heap.size, 1, none⟩ = some (.slice aB nB cB) := p1
    replace p2 : w7.cell? ⟨w.heap.size, 2, none⟩ = some (.slice aM nM cM) := p2
    replace p3 : w7.cell? ⟨w.heap.size, 3, none⟩ = some (.slice aP nP cP) := p3
    clear h0 HYES HNO HE
    go_wp2_with (refine store_books rfl _ _ rfl (w.heap.size + 1) ⟨aA, nA, cA, aB, nB, cB, aM, nM, cM, aP, nP, cP⟩ rfl rfl _ hres rfl ?_)
    clear p0 p1 p2 p3 hres
    generalize w7.setRow (w.heap.size + 1) #[.slice aA nA cA, .slice aB nB cB, .slice aM nM cM, .slice aP nP cP] = wf at RR D ⊢
    obtain ⟨d0, d1, d2, d3⟩ := D.out.box
    go_wp2
    exact bodyPost_ret (v := .tuple #[BA.val ⟨aA, nA, cA, aB, nB, cB, aM, nM, cM, aP, nP, cP⟩, .slice a n c, .slice none 0 0]) (by simp [results, Try.results14, d0, d1, d2, d3, go_sem]) rfl RR.out

end Go.Proofs.Ytlackjldopeigaa
