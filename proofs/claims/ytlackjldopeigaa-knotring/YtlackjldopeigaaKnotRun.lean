/-
  knot.Run.
-/
import Derived.Test.YtlackjldopeigaaKnotDo
import Derived.Test.YtlackjldopeigaaKnotPure
import Derived.Test.YtlackjldopeigaaKnotEnds
import Derived.Test.YtlackjldopeigaaFreeSt
import Derived.Test.YtlackjldopeigaaPostAll
import Derived.Test.YtlackjldopeigaaRowRefs
import Derived.Test.YtlackjldopeigaaViewAll
namespace Go.Proofs.Ytlackjldopeigaa
open Go.RowKit
set_option linter.unusedVariables false
set_option linter.unusedSimpArgs false

set_option maxHeartbeats 16000000 in
set_option maxRecDepth 100000 in
theorem knotRun_any (x : BA) (b : Bks) (a : Option Addr) (n c : Nat) (L : List P7) (t : Int) (w : World) (hk : Bk w x b) (gd : Good b) (h : PGood w a n c L) (hq : Que L) (hA : allB b L = true) :
    Calls Try.prog 13 #[x.val, .slice a n c, .int .i64 t] w (FreeEnd w (knotR b L t)) := by
  have HL : Hid (n ≤ 40 ∧ n = L.length) := by have := h.len; have := hq.1; exact ⟨by omega, h.len⟩
  have HK : Hid (Bk w x b) := hk
  have HG : Hid (PGood w a n c L) := h
  have HQ : Hid (Que L ∧ Good b) := ⟨hq, gd⟩
  have HOFF : Hid (0 < n → ∀ y, a = some y → y.block < w.heap.size) := fun hn y hy => by
    obtain ⟨b1, o1, ha1, hc1⟩ := h.at hn
    have hx2 := ha1.symm.trans hy
    simp at hx2
    have hyb : y.block = b1 := by rw [← hx2]
    rw [hyb]
    exact block_lt_of_cell (hc1 0 hn).1
  obtain ⟨ml, hml⟩ : ∃ ml, (mostK b (vReady L t)).1.length = ml := ⟨_, rfl⟩
  obtain ⟨rl, hrl⟩ : ∃ rl, (vReady L t).length = rl := ⟨_, rfl⟩
  obtain ⟨nk, hnk⟩ : ∃ nk, (knotM b L t).length = nk := ⟨_, rfl⟩
  have ml6 : ml ≤ 6 := by rw [← hml, mostK_len]; exact gd.n6
  have hr40 : rl ≤ 40 := by have := ready_len L t; have := HL.out; omega
  have MO : Hid (∀ u, Below w.heap.size w u → Calls Try.prog 11 #[x.val, .slice a n c, .int .i64 t] u (MostEndN u (mostK b (vReady L t)).1 (mostK b (vReady L t)).2 ml)) := fun u hu => (knotMost_any x b a n c L t u (HK.out.below hu) gd (HG.out.below hu) (ready_all t hA) (by have := HL.out; omega)).mono fun _ _ h => h.num hml
  have RY : Hid (∀ u, Below w.heap.size w u → Calls Try.prog 29 #[.slice a n c, .int .i64 t] u (PEndN u (vReady L t) rl)) := fun u hu => (viewReady_any a n c L t u (HG.out.below hu) (by have := HL.out; omega)).mono fun _ _ h => h.num hrl
  have HD : Hid (∀ ar cr g cm u, PGood u ar rl cr (vReady L t) → IGood u (some ⟨g, 0, none⟩) ml cm (mostK b (vReady L t)).1 → Calls Try.prog 32 #[.slice ar rl cr, .slice (some ⟨g, 0, none⟩) ml cm] u (PEndN u (knotM b L t) nk)) := fun ar cr g cm u hg hm => (viewHeads_any ar (some ⟨g, 0, none⟩) rl cr ml cm (vReady L t) (intsL (mostK b (vReady L t)).1) u hg hm.sl (by omega) (by omega)).mono fun _ _ h => PEnd.num (K := knotM b L t) h hnk
  have PO : Hid (∀ ak ck u, Below w.heap.size w u → PGood u ak nk ck (knotM b L t) → Calls Try.prog 35 #[x.val, .slice ak nk ck] u (PostEnd u b (knotM b L t))) := fun ak ck u hu hg => post_any x b ak nk ck (knotM b L t) u (HK.out.below hu) gd hg
  have HYES : Hid (postE b (knotM b L t) = 0 → knotR b L t = (postR b (knotM b L t), dropAll L (knotM b L t), knotM b L t)) := knotR_yes
  have HNO : Hid (¬ postE b (knotM b L t) = 0 → knotR b L t = (b, L, []) ∧ postR b (knotM b L t) = b) := fun h => ⟨knotR_no h, postR_err h⟩
  have HGP : Hid (Good (postR b (knotM b L t))) := postR_good gd _
  have HK40 : Hid (nk ≤ 40 ∧ (knotM b L t).length = nk) := ⟨by have := knotM_len b L t; have := HL.out; omega, hnk⟩
  generalize knotR b L t = R at HYES HNO ⊢
  clear hnk hml hrl ml6 hr40
  generalize knotM b L t = K at HD PO HYES HNO HGP HK40
  generalize (mostK b (vReady L t)).1 = M at MO HD
  generalize (mostK b (vReady L t)).2 = N at MO
  generalize vReady L t = RR at RY HD
  obtain ⟨aA, nA, cA, aB, nB, cB, aM, nM, cM, aP, nP, cP⟩ := x
  obtain ⟨w2, hw2⟩ : ∃ w2, w2 = (w.alloc (.cells #[.slice aA nA cA, .slice aB nB cB, .slice aM nM cM, .slice aP nP cP] 27)).alloc (.cells #[.slice none 0 0, .slice none 0 0, .slice none 0 0, .slice none 0 0] 27) := ⟨_, rfl⟩
  have B2 : Hid (Below w.heap.size w w2) := by rw [hw2]; exact (box_below _ _).alloc (box_below _ _).size _
  have X2 : Hid (BVar w2 w.heap.size ⟨aA, nA, cA, aB, nB, cB, aM, nM, cM, aP, nP, cP⟩) := by rw [hw2]; exact (BVar.new w ⟨aA, nA, cA, aB, nB, cB, aM, nM, cM, aP, nP, cP⟩).below (box_below _ _)
  have V2 : Hid (BVar w2 (w.heap.size + 1) ba0) := by
    rw [hw2]
    have := BVar.new (w.alloc (.cells #[.slice aA nA cA, .slice aB nB cB, .slice aM nM cM, .slice aP nP cP] 27)) ba0
    rw [size_alloc] at this
    exact this
  have CC := MO.out w2 B2.out
  clear hk gd h hq hA MO
  go_enter Try.func13, Try.ntmps13
  go_upto_region 1 with fail
  rw [← hw2]
  clear hw2
  obtain ⟨p0, p1, p2, p3⟩ := X2.out.box
  replace p0 : w2.cell? ⟨w.heap.size, 0, none⟩ = some (.slice aA nA cA) := p0
  replace p1 : w2.cell? ⟨w.heap.size, 1, none⟩ = some (.slice aB nB cB) := p1
  replace p2 : w2.cell? ⟨w.heap.size, 2, none⟩ = some (.slice aM nM cM) := p2
  replace p3 : w2.cell? ⟨w.heap.size, 3, none⟩ = some (.slice aP nP cP) := p3
  go_wp2_with fail
  go_at_call 11
  refine CC.mono ?_
  rintro e w3 ⟨g, cm, rfl, hm, hb⟩
  have B3 : Hid (Below w.heap.size w w3) := B2.out.trans (hb.mono B2.out.size)
  have X3 : Hid (BVar w3 w.heap.size ⟨aA, nA, cA, aB, nB, cB, aM, nM, cM, aP, nP, cP⟩) := X2.out.below hb
  have V3 : Hid (BVar w3 (w.heap.size + 1) ba0) := V2.out.below hb
  have M3 : Hid (IGood w3 (some ⟨g, 0, none⟩) ml cm M) := hm
  have CC := RY.out w3 B3.out
  clear hm hb RY X2 V2 B2 p0 p1 p2 p3
  go_wp2_with fail
  go_at_call 29
  refine CC.mono ?_
  rintro e w4 ⟨ar, cr, rfl, hg, -, hb⟩
  have B4 : Hid (Below w.heap.size w w4) := B3.out.trans (hb.mono B3.out.size)
  have X4 : Hid (BVar w4 w.heap.size ⟨aA, nA, cA, aB, nB, cB, aM, nM, cM, aP, nP, cP⟩) := X3.out.below hb
  have V4 : Hid (BVar w4 (w.heap.size + 1) ba0) := V3.out.below hb
  have CC := HD.out ar cr g cm w4 hg (M3.out.below hb)
  clear hg hb HD X3 V3 B3 M3
  go_wp2_with fail
  go_at_call 32
  refine CC.mono ?_
  rintro e w5 ⟨ak, ck, rfl, hg, hn, hb⟩
  have B5 : Hid (Below w.heap.size w w5) := B4.out.trans (hb.mono B4.out.size)
  have X5 : Hid (BVar w5 w.heap.size ⟨aA, nA, cA, aB, nB, cB, aM, nM, cM, aP, nP, cP⟩) := X4.out.below hb
  have V5 : Hid (BVar w5 (w.heap.size + 1) ba0) := V4.out.below hb
  have G5 : Hid (PGood w5 ak nk ck K) := hg
  have N5 : Hid (∀ x, ak = some x → w.heap.size + 2 ≤ x.block) := fun x hx => by have := hn x hx; have := V4.out.lt; omega
  clear hg hb hn X4 V4 B4 CC
  have CC := concatP_any w5.heap.size 1 1 [L] (w5.alloc (.cells #[.slice a n c] 23)) (fun i hi => by
    obtain rfl : i = 0 := by simp at hi; omega
    exact ⟨a, n, c, by rw [cell_new]; rfl, (HG.out.below B5.out).below (box_below _ _)⟩) rfl (by omega) (by simp; have := HL.out; omega)
  rw [show [L].flatten = L by simp] at CC
  unfold PEnd at CC
  rw [← HL.out.2] at CC
  go_wp2_with fail
  go_at_call 34
  refine CC.mono ?_
  rintro e w6 ⟨al, cl, rfl, hg, hn, hb⟩
  have b56 : Below w5.heap.size w5 w6 := (box_below _ _).trans (hb.mono (by rw [size_alloc]; omega))
  have B6 : Hid (Below w.heap.size w w6) := B5.out.trans (b56.mono B5.out.size)
  have X6 : Hid (BVar w6 w.heap.size ⟨aA, nA, cA, aB, nB, cB, aM, nM, cM, aP, nP, cP⟩) := X5.out.below b56
  have V6 : Hid (BVar w6 (w.heap.size + 1) ba0) := V5.out.below b56
  have G6 : Hid (PGood w6 ak nk ck K) := G5.out.below b56
  have L6 : Hid (PGood w6 al n cl L) := hg
  have O6 : Hid (∀ x, al = some x → w.heap.size + 2 ≤ x.block) := fun x hx => by have h1 := hn x hx; rw [size_alloc] at h1; have h2 := V5.out.lt; omega
  clear hg hn hb b56 X5 V5 G5 B5
  have CC := PO.out ak ck w6 B6.out G6.out
  obtain ⟨p0, p1, p2, p3⟩ := X6.out.box
  replace p0 : w6.cell? ⟨w.heap.size, 0, none⟩ = some (.slice aA nA cA) := p0
  replace p1 : w6.cell? ⟨w.heap.size, 1, none⟩ = some (.slice aB nB cB) := p1
  replace p2 : w6.cell? ⟨w.heap.size, 2, none⟩ = some (.slice aM nM cM) := p2
  replace p3 : w6.cell? ⟨w.heap.size, 3, none⟩ = some (.slice aP nP cP) := p3
  unfold PostEnd at CC
  obtain ⟨er, her⟩ : ∃ er, postE b K = er := ⟨_, rfl⟩
  rw [her] at CC
  have HE : Hid (postE b K = er) := her
  clear her PO
  go_wp2_with fail
  go_at_call 35
  refine CC.mono ?_
  rintro e w7 ⟨y, rfl, nb, hb⟩
  obtain ⟨yA, mA, eA, yB, mB, eB, yM, mM, eM, yP, mP, eP⟩ := y
  have hbox := V6.out.below hb
  have hlt2 := V6.out.lt
  obtain ⟨w8, hw8⟩ : ∃ w8, w8 = w7.setRow (w.heap.size + 1) #[.slice yA mA eA, .slice yB mB eB, .slice yM mM eM, .slice yP mP eP] := ⟨_, rfl⟩
  have B8 : Hid (Below w.heap.size w w8) := by rw [hw8]; exact Below.setRow (B6.out.trans (hb.mono B6.out.size)) (by omega) _
  have V8 : Hid (BVar w8 (w.heap.size + 1) ⟨yA, mA, eA, yB, mB, eB, yM, mM, eM, yP, mP, eP⟩) := by rw [hw8]; exact hbox.set ⟨yA, mA, eA, yB, mB, eB, yM, mM, eM, yP, mP, eP⟩
  have G8 : Hid (PGood w8 ak nk ck K) := by rw [hw8]; exact (G6.out.below hb).turn fun x hx hn => setRow_other w7 (w.heap.size + 1) x.block _ (by have := N5.out x hx; omega)
  have L8 : Hid (PGood w8 al n cl L) := by rw [hw8]; exact (L6.out.below hb).turn fun x hx hn => setRow_other w7 (w.heap.size + 1) x.block _ (by have := O6.out x hx; omega)
  have NB8 : Hid (NewBk w8 (w.heap.size + 2) ⟨yA, mA, eA, yB, mB, eB, yM, mM, eM, yP, mP, eP⟩ (postR b K)) := by rw [hw8]; exact (nb.kept fun j hj => setRow_other w7 (w.heap.size + 1) j _ (by have hj : w6.heap.size ≤ j := hj; omega)).base (by omega)
  clear CC nb hb hlt2 X6 V6 G6 L6 B6 p0 p1 p2 p3
  go_upto_region 5 with (refine store_books rfl _ _ rfl (w.heap.size + 1) ⟨yA, mA, eA, yB, mB, eB, yM, mM, eM, yP, mP, eP⟩ rfl rfl _ hbox rfl ?_)
  rw [← hw8]
  clear hw8 hbox
  by_cases h0 : er = 0
  · subst h0
    have HR := HYES.out HE.out
    subst HR
    clear HYES HNO HE
    go_wp2
    go_loopw [7, 42] (fun l i wr => ∃ (k : Nat) (a' : Option Addr) (n' c' : Nat), k ≤ nk ∧ l = .slice a' n' c' ∧ i = .int .i64 k ∧ Hid (PGood wr a' n' c' (dropAll L (K.take k))) ∧ Hid (∀ x, a' = some x → w.heap.size + 2 ≤ x.block) ∧ Hid (Below w8.heap.size w8 wr)) (fun _ i _ => nk - (intOf i).toNat)
    case atStart => exact ⟨0, al, n, cl, by omega, rfl, rfl, L8.out, O6.out, Below.refl _ _⟩
    case round =>
      obtain ⟨k, a', n', c', hk, rfl, rfl, GR, OR, HB⟩ := hrel
      have n40 : n' ≤ 40 := by have h1 := GR.out.len; have h2 := dropAll_le L (K.take k); have := HL.out; omega
      have nk40 : (nk : Int) ≤ 40 := by have := HK40.out.1; omega
      by_cases hlt : k < nk
      · obtain ⟨bk, off, rfl, HC⟩ := G8.out.at hlt
        have i1 : (k : Int) < (nk : Int) := by omega
        have kw : IntKind.i64.wrap ((k : Int) + 1) = k + 1 := i64_wf (by omega) (by omega)
        have C0 := (HC k hlt).below HB.out
        have hcap := G8.out.cap
        have HT := dropAll_take (l := L) (m := K) (k := k) (by have := HK40.out.2; omega)
        obtain ⟨x, hx⟩ : ∃ x, K.getD k p70 = x := ⟨_, rfl⟩
        rw [hx] at C0 HT
        obtain ⟨x0, x1, x2, x3, x4, x5, x6⟩ := x
        rw [show P7.id (x0, x1, x2, x3, x4, x5, x6) = x0 from rfl] at HT
        obtain ⟨p0, p1, p2, p3, p4, p5, p6⟩ := C0
        simp only [P7.id, P7.fr, P7.to, P7.am, P7.cl, P7.st, P7.ti, Nat.zero_add] at p0 p1 p2 p3 p4 p5 p6
        obtain ⟨w9, hw9⟩ : ∃ w9, w9 = wr.alloc (.cells #[.int .i64 x0, .int .i64 x1, .int .i64 x2, .int .i64 x3, .int .i64 x4, .int .i64 x5, .int .i64 x6] 51) := ⟨_, rfl⟩
        obtain ⟨f, hf⟩ : ∃ f, wr.heap.size = f := ⟨_, rfl⟩
        have P9 : Hid (PBox w9 f (x0, x1, x2, x3, x4, x5, x6)) := by rw [hw9, ← hf]; exact PBox.new wr (x0, x1, x2, x3, x4, x5, x6)
        have b9 : Below wr.heap.size wr w9 := by rw [hw9]; exact box_below _ _
        have B9 : Hid (Below w8.heap.size w8 w9) := HB.out.trans (b9.mono HB.out.size)
        obtain ⟨nq, hnq⟩ : ∃ nq, (qDrop (dropAll L (K.take k)) x0).length = nq := ⟨_, rfl⟩
        have DR := drop_any7 a' n' c' (dropAll L (K.take k)) x0 w9 (GR.out.below b9) (by omega)
        unfold DropEnd7 at DR
        rw [hnq, ← HT] at DR
        obtain ⟨q7, hq7⟩ : ∃ q, qDropP (dropAll L (K.take k)) x0 = q := ⟨_, rfl⟩
        rw [hq7] at DR
        generalize qDropE (dropAll L (K.take k)) x0 = eq at DR
        obtain ⟨g0, g1, g2, g3, g4, g5, g6⟩ := q7
        clear HC hx HT hnq hq7 n40 GR OR HB b9
        go_upto_region 10 with fail
        rw [← hw9]
        clear hw9 p0 p1 p2 p3 p4 p5 p6
        try rw [hf]
        clear hf
        obtain ⟨p0, p1, p2, p3, p4, p5, p6⟩ := P9.out.at7
        simp only [P7.id, P7.fr, P7.to, P7.am, P7.cl, P7.st, P7.ti, Nat.zero_add] at p0 p1 p2 p3 p4 p5 p6
        go_wp2_with fail
        go_at_call 36
        refine DR.mono ?_
        rintro e wa ⟨a8, c8, rfl, hg8, hn8, hb⟩
        have Ba : Hid (Below w8.heap.size w8 wa) := B9.out.trans (hb.mono B9.out.size)
        have Ga : Hid (PGood wa a8 nq c8 (dropAll L (K.take (k + 1)))) := hg8
        have Oa : Hid (∀ x, a8 = some x → w.heap.size + 2 ≤ x.block) := fun x hx => by
          have h1 := hn8 x hx
          have h2 := B9.out.size
          have h3 := V8.out.lt
          omega
        clear DR hg8 hn8 hb p0 p1 p2 p3 p4 p5 p6 B9 P9
        go_wp2
        go_roundw
        case rel => exact ⟨k + 1, a8, nq, c8, by omega, rfl, by go_num, Ga, Oa, Ba⟩
        case measure => simp [intOf]; omega
      · obtain rfl : k = nk := by omega
        have hkk : K.take k = K := List.take_of_length_le (by have := HK40.out.2; omega)
        rw [hkk] at GR
        have BW : Hid (Below w.heap.size w wr) := B8.out.trans (HB.out.mono B8.out.size)
        have hres := V8.out.below HB.out
        have RR : Hid (FreeEnd w (postR b K, dropAll L K, K) (.returned (.tuple #[BA.val ⟨yA, mA, eA, yB, mB, eB, yM, mM, eM, yP, mP, eP⟩, .slice a' n' c', .slice ak k ck])) (wr.setRow (w.heap.size + 1) #[.slice yA mA eA, .slice yB mB eB, .slice yM mM eM, .slice yP mP eP])) := by
          refine ⟨_, a', n', c', ak, k, ck, rfl, ?_, HGP.out, ?_, dropAll_que HQ.out.1 K, ?_, by have := HK40.out; show K.length ≤ 40; omega, Below.setRow BW.out (by omega) _⟩
          · exact ((NB8.out.below HB.out).kept fun j hj => setRow_other wr (w.heap.size + 1) j _ (by have hj : w.heap.size + 2 ≤ j := hj; omega)).bk
          · exact GR.out.turn fun x hx hn => setRow_other wr (w.heap.size + 1) x.block _ (by have := OR.out x hx; omega)
          · exact (G8.out.below HB.out).turn fun x hx hn => setRow_other wr (w.heap.size + 1) x.block _ (by have := N5.out x hx; omega)
        have D : Hid (BVar (wr.setRow (w.heap.size + 1) #[.slice yA mA eA, .slice yB mB eB, .slice yM mM eM, .slice yP mP eP]) (w.heap.size + 1) ⟨yA, mA, eA, yB, mB, eB, yM, mM, eM, yP, mP, eP⟩) := hres.set ⟨yA, mA, eA, yB, mB, eB, yM, mM, eM, yP, mP, eP⟩
        obtain ⟨p0, p1, p2, p3⟩ := hres.box
        replace p0 : wr.cell? ⟨w.heap.size + 1, 0, none⟩ = some (.slice yA mA eA) := p0
        replace p1 : wr.cell? ⟨w.heap.size + 1, 1, none⟩ = some (.slice yB mB eB) := p1
        replace p2 : wr.cell? ⟨w.heap.size + 1, 2, none⟩ = some (.slice yM mM eM) := p2
        replace p3 : wr.cell? ⟨w.heap.size + 1, 3, none⟩ = some (.slice yP mP eP) := p3
        clear hkk GR OR HB BW G8 V8 NB8 B8
        go_wp2_with (refine store_books rfl _ _ rfl (w.heap.size + 1) ⟨yA, mA, eA, yB, mB, eB, yM, mM, eM, yP, mP, eP⟩ rfl rfl _ hres rfl ?_)
        clear p0 p1 p2 p3 hres
        generalize wr.setRow (w.heap.size + 1) #[.slice yA mA eA, .slice yB mB eB, .slice yM mM eM, .slice yP mP eP] = wf at RR D ⊢
        obtain ⟨d0, d1, d2, d3⟩ := D.out.box
        go_wp2
        exact bodyPost_ret (v := .tuple #[BA.val ⟨yA, mA, eA, yB, mB, eB, yM, mM, eM, yP, mP, eP⟩, .slice a' n' c', .slice ak k ck]) (by simp [results, Try.results13, d0, d1, d2, d3, go_sem]) rfl RR.out
  · obtain ⟨HR, HB⟩ := HNO.out (fun h => h0 (HE.out.symm.trans h))
    subst HR
    have NBb : Hid (NewBk w8 (w.heap.size + 2) ⟨yA, mA, eA, yB, mB, eB, yM, mM, eM, yP, mP, eP⟩ b) := by
      have := NB8.out
      rw [HB] at this
      exact this
    have h1 : (er == 0) = false := by simpa using h0
    have h2 : (er != 0) = true := by simpa using h0
    have hres := V8.out
    have RR : Hid (FreeEnd w (b, L, []) (.returned (.tuple #[BA.val ⟨yA, mA, eA, yB, mB, eB, yM, mM, eM, yP, mP, eP⟩, .slice al n cl, .slice none 0 0])) (w8.setRow (w.heap.size + 1) #[.slice yA mA eA, .slice yB mB eB, .slice yM mM eM, .slice yP mP eP])) := by
      have hb : Below w.heap.size w (w8.setRow (w.heap.size + 1) #[.slice yA mA eA, .slice yB mB eB, .slice yM mM eM, .slice yP mP eP]) := Below.setRow B8.out (by omega) _
      exact ⟨_, al, n, cl, none, 0, 0, rfl, (NBb.out.kept fun j hj => setRow_other w8 (w.heap.size + 1) j _ (by have hj : w.heap.size + 2 ≤ j := hj; omega)).bk, HQ.out.2, L8.out.turn fun x hx hn => setRow_other w8 (w.heap.size + 1) x.block _ (by have := O6.out x hx; omega), HQ.out.1, PGood.nil _, by simp, hb⟩
    have D : Hid (BVar (w8.setRow (w.heap.size + 1) #[.slice yA mA eA, .slice yB mB eB, .slice yM mM eM, .slice yP mP eP]) (w.heap.size + 1) ⟨yA, mA, eA, yB, mB, eB, yM, mM, eM, yP, mP, eP⟩) := hres.set ⟨yA, mA, eA, yB, mB, eB, yM, mM, eM, yP, mP, eP⟩
    obtain ⟨p0, p1, p2, p3⟩ := V8.out.box
    replace p0 : w8.cell? ⟨w.heap.size + 1, 0, none⟩ = some (.slice yA mA eA) := p0
    replace p1 : w8.cell? ⟨w.heap.size + 1, 1, none⟩ = some (.slice yB mB eB) := p1
    replace p2 : w8.cell? ⟨w.heap.size + 1, 2, none⟩ = some (.slice yM mM eM) := p2
    replace p3 : w8.cell? ⟨w.heap.size + 1, 3, none⟩ = some (.slice yP mP eP) := p3
    clear h0 HYES HNO HE HB
    go_wp2_with (refine store_books rfl _ _ rfl (w.heap.size + 1) ⟨yA, mA, eA, yB, mB, eB, yM, mM, eM, yP, mP, eP⟩ rfl rfl _ hres rfl ?_)
    clear p0 p1 p2 p3 hres
    generalize w8.setRow (w.heap.size + 1) #[.slice yA mA eA, .slice yB mB eB, .slice yM mM eM, .slice yP mP eP] = wf at RR D ⊢
    obtain ⟨d0, d1, d2, d3⟩ := D.out.box
    go_wp2
    exact bodyPost_ret (v := .tuple #[BA.val ⟨yA, mA, eA, yB, mB, eB, yM, mM, eM, yP, mP, eP⟩, .slice al n cl, .slice none 0 0]) (by simp [results, Try.results13, d0, d1, d2, d3, go_sem]) rfl RR.out

end Go.Proofs.Ytlackjldopeigaa
