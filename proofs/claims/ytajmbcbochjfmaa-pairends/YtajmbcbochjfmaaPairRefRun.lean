/-
  giroref19.Run: the document's answer.
-/
import Derived.Test.YtajmbcbochjfmaaPairSt
import Derived.Test.YtajmbcbochjfmaaPairRef
import Derived.Test.YtajmbcbochjfmaaFreeRun
namespace Go.Proofs.Ytajmbcbochjfmaa
open Go.RowKit
set_option linter.unusedVariables false
set_option linter.unusedSimpArgs false

set_option maxHeartbeats 16000000 in
set_option maxRecDepth 100000 in
theorem refRunQ_any (x : BA) (b : Bks) (a : Option Addr) (n c : Nat) (L : List P7) (t : Int) (w : World) (hk : Bk w x b) (gd : Good b) (h : PGood w a n c L) (hq : Que L) :
    Calls Try.prog 12 #[x.val, .slice a n c, .int .i64 t] w (FreeEnd w (runQ b L t)) := by
  have HL : Hid (n ≤ 40) := by have := h.len; have := hq.1; show n ≤ 40; omega
  have S2 := RunSt.new hk gd h hq
  have HRUN : Hid (LeadsQ b L t [] (runQ b L t)) := runQ_leads b t hq
  generalize runQ b L t = R at HRUN ⊢
  obtain ⟨aA, nA, cA, aB, nB, cB, aM, nM, cM, aP, nP, cP⟩ := x
  obtain ⟨w2, hw2⟩ : ∃ w2, w2 = (w.alloc (.cells #[.slice aA nA cA, .slice aB nB cB, .slice aM nM cM, .slice aP nP cP] 27)).alloc (.cells #[.slice none 0 0, .slice none 0 0, .slice none 0 0, .slice none 0 0] 27) := ⟨_, rfl⟩
  have ST2 : Hid (RunSt w w2 ⟨aA, nA, cA, aB, nB, cB, aM, nM, cM, aP, nP, cP⟩ b a n c L (.slice none 0 0) []) := by rw [hw2]; exact S2
  clear S2 hk gd h hq
  go_enter Try.func12, Try.ntmps12
  go_upto_region 1 with fail
  rw [← hw2]
  clear hw2
  go_wp2
  go_loopw [1, 9] (fun l d wr => ∃ (y : BA) (b' : Bks) (a' : Option Addr) (n' c' : Nat) (l' : List P7) (v : Value) (d' : List P7), l = .slice a' n' c' ∧ v = d ∧ n' + d'.length ≤ 40 ∧ Hid (RunSt w wr y b' a' n' c' l' v d') ∧ Hid (LeadsQ b' l' t d' R)) (fun l _ _ => lenV l)
  case atStart => exact ⟨_, b, a, n, c, L, _, [], rfl, rfl, by have := HL.out; simp; omega, ST2.out, HRUN.out⟩
  case round =>
    obtain ⟨y, b', a', n', c', l', v, d', rfl, rfl, h40, ST, HR⟩ := hrel
    clear ST2 HRUN HL
    have NX := refNextQ_any y b' a' n' c' l' t wr ST.out.bks ST.out.good ST.out.row (by omega) ST.out.que.2
    obtain ⟨yA, mA, eA, yB, mB, eB, yM, mM, eM, yP, mP, eP⟩ := y
    obtain ⟨p0, p1, p2, p3⟩ := ST.out.box.box
    replace p0 : wr.cell? ⟨w.heap.size, 0, none⟩ = some (.slice yA mA eA) := p0
    replace p1 : wr.cell? ⟨w.heap.size, 1, none⟩ = some (.slice yB mB eB) := p1
    replace p2 : wr.cell? ⟨w.heap.size, 2, none⟩ = some (.slice yM mM eM) := p2
    replace p3 : wr.cell? ⟨w.heap.size, 3, none⟩ = some (.slice yP mP eP) := p3
    obtain ⟨N, hN⟩ : ∃ N, nextQ b' l' t = N := ⟨_, rfl⟩
    rw [hN] at NX
    have HN : Hid (nextQ b' l' t = N) := hN
    clear hN
    go_wp2_with fail
    go_at_call 10
    refine NX.mono ?_
    rintro e w3 ⟨he, hb⟩
    have ST3 : Hid (RunSt w w3 ⟨yA, mA, eA, yB, mB, eB, yM, mM, eM, yP, mP, eP⟩ b' a' n' c' l' v d') := ST.out.below hb
    clear hb NX p0 p1 p2 p3 ST
    cases N with
    | none =>
      have he : e = .returned (.tuple #[.agg #[.int .i64 0, .int .i64 0, .int .i64 0, .int .i64 0, .int .i64 0, .int .i64 0, .int .i64 0], .agg #[.int .i64 0, .int .i64 0, .int .i64 0, .int .i64 0, .int .i64 0, .int .i64 0, .int .i64 0], .bool false]) := he
      subst he
      obtain ⟨w4, hw4⟩ : ∃ w4, w4 = (w3.alloc (.cells #[.int .i64 0, .int .i64 0, .int .i64 0, .int .i64 0, .int .i64 0, .int .i64 0, .int .i64 0] 31)).alloc (.cells #[.int .i64 0, .int .i64 0, .int .i64 0, .int .i64 0, .int .i64 0, .int .i64 0, .int .i64 0] 31) := ⟨_, rfl⟩
      have ST4 : Hid (RunSt w w4 ⟨yA, mA, eA, yB, mB, eB, yM, mM, eM, yP, mP, eP⟩ b' a' n' c' l' v d') := by rw [hw4]; exact (ST3.out.below (box_below _ _)).below (box_below _ _)
      have HE : Hid (b' = R.1 ∧ l' = R.2.1 ∧ d' = R.2.2) := by
        have h1 := HR.out.stop HN.out
        rw [← h1]
        exact ⟨rfl, rfl, rfl⟩
      clear ST3 HR HN
      go_upto_region 3 with fail
      rw [← hw4]
      clear hw4
      obtain ⟨E1, E2, ⟨ad, cd, hv, E3⟩, E4⟩ := ST4.out.end #[.slice yA mA eA, .slice yB mB eB, .slice yM mM eM, .slice yP mP eP]
      subst hv
      have RR : Hid (FreeEnd w R (.returned (.tuple #[BA.val ⟨yA, mA, eA, yB, mB, eB, yM, mM, eM, yP, mP, eP⟩, .slice a' n' c', .slice ad d'.length cd])) (w4.setRow (w.heap.size + 1) #[.slice yA mA eA, .slice yB mB eB, .slice yM mM eM, .slice yP mP eP])) := by
        obtain ⟨h1, h2, h3⟩ := HE.out
        exact ⟨_, a', n', c', ad, d'.length, cd, rfl, by rw [← h1]; exact E1, by rw [← h1]; exact ST4.out.good, by rw [← h2]; exact E2, by rw [← h2]; exact ST4.out.que, by rw [← h3]; exact E3, by rw [← h3]; omega, E4⟩
      have D : Hid (BVar (w4.setRow (w.heap.size + 1) #[.slice yA mA eA, .slice yB mB eB, .slice yM mM eM, .slice yP mP eP]) (w.heap.size + 1) ⟨yA, mA, eA, yB, mB, eB, yM, mM, eM, yP, mP, eP⟩) := ST4.out.res.set ⟨yA, mA, eA, yB, mB, eB, yM, mM, eM, yP, mP, eP⟩
      have hres := ST4.out.res
      obtain ⟨p0, p1, p2, p3⟩ := ST4.out.box.box
      replace p0 : w4.cell? ⟨w.heap.size, 0, none⟩ = some (.slice yA mA eA) := p0
      replace p1 : w4.cell? ⟨w.heap.size, 1, none⟩ = some (.slice yB mB eB) := p1
      replace p2 : w4.cell? ⟨w.heap.size, 2, none⟩ = some (.slice yM mM eM) := p2
      replace p3 : w4.cell? ⟨w.heap.size, 3, none⟩ = some (.slice yP mP eP) := p3
      generalize d'.length = m at RR ⊢
      clear E1 E2 E3 E4 HE h40 ST4
      go_wp2_with (refine store_books rfl _ _ rfl (w.heap.size + 1) ⟨yA, mA, eA, yB, mB, eB, yM, mM, eM, yP, mP, eP⟩ rfl rfl _ hres rfl ?_)
      clear p0 p1 p2 p3 hres
      generalize w4.setRow (w.heap.size + 1) #[.slice yA mA eA, .slice yB mB eB, .slice yM mM eM, .slice yP mP eP] = wf at RR D ⊢
      obtain ⟨d0, d1, d2, d3⟩ := D.out.box
      go_wp2
      exact bodyPost_ret (v := .tuple #[BA.val ⟨yA, mA, eA, yB, mB, eB, yM, mM, eM, yP, mP, eP⟩, .slice a' n' c', .slice ad m cd]) (by simp [results, Try.results12, d0, d1, d2, d3, go_sem]) rfl RR.out
    | some pq =>
      obtain ⟨p, q⟩ := pq
      have HGO := (nextQ_some HN.out).2.2.2.2.2
      have HST := HR.out.step HN.out
      have HNL := nextQ_two ST3.out.que HN.out
      have hln := ST3.out.row.len
      obtain ⟨x0, x1, x2, x3, x4, x5, x6⟩ := p
      obtain ⟨y0, y1, y2, y3, y4, y5, y6⟩ := q
      have hid : P7.id (x0, x1, x2, x3, x4, x5, x6) = x0 := rfl
      have hid2 : P7.id (y0, y1, y2, y3, y4, y5, y6) = y0 := rfl
      have hd2 : drop2 l' (x0, x1, x2, x3, x4, x5, x6) (y0, y1, y2, y3, y4, y5, y6) = qDrop (qDrop l' x0) y0 := rfl
      rw [hd2] at HST HNL
      rw [hid] at HNL
      have he : e = .returned (.tuple #[.agg #[.int .i64 x0, .int .i64 x1, .int .i64 x2, .int .i64 x3, .int .i64 x4, .int .i64 x5, .int .i64 x6], .agg #[.int .i64 y0, .int .i64 y1, .int .i64 y2, .int .i64 y3, .int .i64 y4, .int .i64 y5, .int .i64 y6], .bool true]) := he
      subst he
      obtain ⟨nq, hnq⟩ : ∃ nq, (qDrop l' x0).length = nq := ⟨_, rfl⟩
      obtain ⟨n2, hn2⟩ : ∃ n2, (qDrop (qDrop l' x0) y0).length = n2 := ⟨_, rfl⟩
      rw [hnq, hn2] at HNL
      have HNQ : Hid ((qDrop l' x0).length = nq ∧ nq + 1 = n' ∧ (qDrop (qDrop l' x0) y0).length = n2 ∧ n2 + 2 = n') := ⟨hnq, by omega, hn2, by omega⟩
      have HRR : Hid (LeadsQ (postR b' [(x0, x1, x2, x3, x4, x5, x6), (y0, y1, y2, y3, y4, y5, y6)]) (qDrop (qDrop l' x0) y0) t (d' ++ [(x0, x1, x2, x3, x4, x5, x6), (y0, y1, y2, y3, y4, y5, y6)]) R) := HST
      have HG : Hid (goesB b' [(x0, x1, x2, x3, x4, x5, x6), (y0, y1, y2, y3, y4, y5, y6)] = true) := HGO
      clear HST HNL hnq hn2 hid hid2 hd2 hln HN HR HGO
      obtain ⟨h, hh⟩ : ∃ h, w3.heap.size = h := ⟨_, rfl⟩
      obtain ⟨w4, hw4⟩ : ∃ w4, w4 = (w3.alloc (.cells #[.int .i64 x0, .int .i64 x1, .int .i64 x2, .int .i64 x3, .int .i64 x4, .int .i64 x5, .int .i64 x6] 31)).alloc (.cells #[.int .i64 y0, .int .i64 y1, .int .i64 y2, .int .i64 y3, .int .i64 y4, .int .i64 y5, .int .i64 y6] 31) := ⟨_, rfl⟩
      have ST4 : Hid (RunSt w w4 ⟨yA, mA, eA, yB, mB, eB, yM, mM, eM, yP, mP, eP⟩ b' a' n' c' l' v d') := by rw [hw4]; exact (ST3.out.below (box_below _ _)).below (box_below _ _)
      have P4 : Hid (PBox w4 h (x0, x1, x2, x3, x4, x5, x6)) := by rw [hw4, ← hh]; exact (PBox.new w3 (x0, x1, x2, x3, x4, x5, x6)).below (box_below _ _)
      have Q4 : Hid (PBox w4 (h + 1) (y0, y1, y2, y3, y4, y5, y6)) := by
        have := PBox.new (w3.alloc (.cells #[.int .i64 x0, .int .i64 x1, .int .i64 x2, .int .i64 x3, .int .i64 x4, .int .i64 x5, .int .i64 x6] 31)) (y0, y1, y2, y3, y4, y5, y6)
        rw [size_alloc, hh] at this
        rw [hw4]
        exact this
      have HH : Hid (w.heap.size + 2 ≤ h) := by have := ST3.out.size; show _ ≤ h; omega
      clear ST3
      go_upto_region 3 with fail
      rw [← hw4]
      clear hw4
      try rw [hh]
      clear hh
      have GO := refGoes_any ⟨yA, mA, eA, yB, mB, eB, yM, mM, eM, yP, mP, eP⟩ b' (some ⟨w4.heap.size, 0, none⟩) 2 2 [(x0, x1, x2, x3, x4, x5, x6), (y0, y1, y2, y3, y4, y5, y6)] _ (ST4.out.bks.below (box_below w4 _)) ST4.out.good (PGood.lit2 w4 (x0, x1, x2, x3, x4, x5, x6) (y0, y1, y2, y3, y4, y5, y6))
      unfold GoesEnd at GO
      rw [HG.out] at GO
      obtain ⟨p0, p1, p2, p3⟩ := ST4.out.box.box
      replace p0 : w4.cell? ⟨w.heap.size, 0, none⟩ = some (.slice yA mA eA) := p0
      replace p1 : w4.cell? ⟨w.heap.size, 1, none⟩ = some (.slice yB mB eB) := p1
      replace p2 : w4.cell? ⟨w.heap.size, 2, none⟩ = some (.slice yM mM eM) := p2
      replace p3 : w4.cell? ⟨w.heap.size, 3, none⟩ = some (.slice yP mP eP) := p3
      obtain ⟨r0, r1, r2, r3, r4, r5, r6⟩ := P4.out.at7
      simp only [P7.id, P7.fr, P7.to, P7.am, P7.cl, P7.st, P7.ti, Nat.zero_add] at r0 r1 r2 r3 r4 r5 r6
      obtain ⟨s0, s1, s2, s3, s4, s5, s6⟩ := Q4.out.at7
      simp only [P7.id, P7.fr, P7.to, P7.am, P7.cl, P7.st, P7.ti, Nat.zero_add] at s0 s1 s2 s3 s4 s5 s6
      go_wp2_with fail
      go_at_call 24
      refine GO.mono ?_
      rintro e w5 ⟨yy, rfl, nb, hb⟩
      have b45 : Below w4.heap.size w4 w5 := (box_below _ _).trans (hb.mono (by rw [size_alloc]; omega))
      have ST5 : Hid (RunSt w w5 ⟨yA, mA, eA, yB, mB, eB, yM, mM, eM, yP, mP, eP⟩ b' a' n' c' l' v d') := ST4.out.below b45
      have P5 : Hid (PBox w5 h (x0, x1, x2, x3, x4, x5, x6)) := P4.out.below b45
      have Q5 : Hid (PBox w5 (h + 1) (y0, y1, y2, y3, y4, y5, y6)) := Q4.out.below b45
      obtain ⟨zA, lA, kA, zB, lB, kB, zM, lM, kM, zP, lP, kP⟩ := yy
      have ST6 : Hid (RunSt w (w5.setRow w.heap.size #[.slice zA lA kA, .slice zB lB kB, .slice zM lM kM, .slice zP lP kP]) ⟨zA, lA, kA, zB, lB, kB, zM, lM, kM, zP, lP, kP⟩ (postR b' [(x0, x1, x2, x3, x4, x5, x6), (y0, y1, y2, y3, y4, y5, y6)]) a' n' c' l' v d') :=
        ST5.out.put (nb trivial) (by have := ST4.out.size; rw [size_alloc]; omega) (postR_good ST4.out.good _)
      have P6 : Hid (PBox (w5.setRow w.heap.size #[.slice zA lA kA, .slice zB lB kB, .slice zM lM kM, .slice zP lP kP]) h (x0, x1, x2, x3, x4, x5, x6)) := P5.out.far (by have := HH.out; omega) _
      have Q6 : Hid (PBox (w5.setRow w.heap.size #[.slice zA lA kA, .slice zB lB kB, .slice zM lM kM, .slice zP lP kP]) (h + 1) (y0, y1, y2, y3, y4, y5, y6)) := Q5.out.far (by have := HH.out; omega) _
      have hbox := ST5.out.box
      clear GO nb hb b45 p0 p1 p2 p3 r0 r1 r2 r3 r4 r5 r6 s0 s1 s2 s3 s4 s5 s6 ST4 P4 Q4 P5 Q5 ST5 HG
      go_upto_region 6 with (refine store_books rfl _ _ rfl w.heap.size ⟨zA, lA, kA, zB, lB, kB, zM, lM, kM, zP, lP, kP⟩ rfl rfl _ hbox rfl ?_)
      clear hbox
      generalize w5.setRow w.heap.size #[.slice zA lA kA, .slice zB lB kB, .slice zM lM kM, .slice zP lP kP] = w6 at ST6 P6 Q6 ⊢
      obtain ⟨r0, r1, r2, r3, r4, r5, r6⟩ := P6.out.at7
      simp only [P7.id, P7.fr, P7.to, P7.am, P7.cl, P7.st, P7.ti, Nat.zero_add] at r0 r1 r2 r3 r4 r5 r6
      have DR := refDrop_new a' n' c' l' x0 w6 ST6.out.row (by omega)
      unfold RDropNew at DR
      rw [HNQ.out.1] at DR
      obtain ⟨q7, hq7⟩ : ∃ q, qDropP l' x0 = q := ⟨_, rfl⟩
      rw [hq7] at DR
      generalize qDropE l' x0 = er at DR
      clear hq7
      obtain ⟨g0, g1, g2, g3, g4, g5, g6⟩ := q7
      go_wp2_with fail
      go_at_call 28
      refine DR.mono ?_
      rintro e w7 ⟨a7, c7, rfl, hg7, hn7, hb⟩
      have ST7 : Hid (RunSt w w7 ⟨zA, lA, kA, zB, lB, kB, zM, lM, kM, zP, lP, kP⟩ (postR b' [(x0, x1, x2, x3, x4, x5, x6), (y0, y1, y2, y3, y4, y5, y6)]) a7 nq c7 (qDrop l' x0) v d') := ST6.out.drop (by have := HNQ.out.2.1; omega) hb hg7 hn7 (ST6.out.que.drop x0)
      have P7b : Hid (PBox w7 h (x0, x1, x2, x3, x4, x5, x6)) := P6.out.below hb
      have Q7b : Hid (PBox w7 (h + 1) (y0, y1, y2, y3, y4, y5, y6)) := Q6.out.below hb
      clear DR hg7 hn7 hb r0 r1 r2 r3 r4 r5 r6 P6 Q6 ST6
      go_upto_region 7 with fail
      obtain ⟨s0, s1, s2, s3, s4, s5, s6⟩ := Q7b.out.at7
      simp only [P7.id, P7.fr, P7.to, P7.am, P7.cl, P7.st, P7.ti, Nat.zero_add] at s0 s1 s2 s3 s4 s5 s6
      have DR := refDrop_new a7 nq c7 (qDrop l' x0) y0 w7 ST7.out.row (by have := HNQ.out.2.1; omega)
      unfold RDropNew at DR
      rw [HNQ.out.2.2.1] at DR
      obtain ⟨q7, hq7⟩ : ∃ q, qDropP (qDrop l' x0) y0 = q := ⟨_, rfl⟩
      rw [hq7] at DR
      generalize qDropE (qDrop l' x0) y0 = er2 at DR
      clear hq7
      obtain ⟨f0, f1, f2, f3, f4, f5, f6⟩ := q7
      go_wp2_with fail
      go_at_call 28
      refine DR.mono ?_
      rintro e w8 ⟨a8, c8, rfl, hg8, hn8, hb⟩
      have ST8 : Hid (RunSt w w8 ⟨zA, lA, kA, zB, lB, kB, zM, lM, kM, zP, lP, kP⟩ (postR b' [(x0, x1, x2, x3, x4, x5, x6), (y0, y1, y2, y3, y4, y5, y6)]) a8 n2 c8 (qDrop (qDrop l' x0) y0) v d') := ST7.out.drop (by have := HNQ.out.2; omega) hb hg8 hn8 (ST7.out.que.drop y0)
      have P8b : Hid (PBox w8 h (x0, x1, x2, x3, x4, x5, x6)) := P7b.out.below hb
      have Q8b : Hid (PBox w8 (h + 1) (y0, y1, y2, y3, y4, y5, y6)) := Q7b.out.below hb
      clear DR hg8 hn8 hb s0 s1 s2 s3 s4 s5 s6 P7b Q7b ST7
      obtain ⟨r0, r1, r2, r3, r4, r5, r6⟩ := P8b.out.at7
      simp only [P7.id, P7.fr, P7.to, P7.am, P7.cl, P7.st, P7.ti, Nat.zero_add] at r0 r1 r2 r3 r4 r5 r6
      obtain ⟨s0, s1, s2, s3, s4, s5, s6⟩ := Q8b.out.at7
      simp only [P7.id, P7.fr, P7.to, P7.am, P7.cl, P7.st, P7.ti, Nat.zero_add] at s0 s1 s2 s3 s4 s5 s6
      go_wp2_with (at_builtin; refine wpList_append_pays_at rfl _ _ rfl (w.heap.size + 2) v d'.length d' rfl (own_below ST8.out.own (box_below _ _)) ⟨w8.heap.size, 0, none⟩ 2 2 [(x0, x1, x2, x3, x4, x5, x6), (y0, y1, y2, y3, y4, y5, y6)] rfl (PGood.lit2 w8 (x0, x1, x2, x3, x4, x5, x6) (y0, y1, y2, y3, y4, y5, y6)) (by omega) (by have := ST8.out.size; rw [size_alloc]; omega) ?_)
      intro v9 w9 h9 g9 hv9
      have ST9 : Hid (RunSt w w9 ⟨zA, lA, kA, zB, lB, kB, zM, lM, kM, zP, lP, kP⟩ (postR b' [(x0, x1, x2, x3, x4, x5, x6), (y0, y1, y2, y3, y4, y5, y6)]) a8 n2 c8 (qDrop (qDrop l' x0) y0) v9 (d' ++ [(x0, x1, x2, x3, x4, x5, x6), (y0, y1, y2, y3, y4, y5, y6)])) := ST8.out.adds (box_below w8 _) _ h9 g9 (by rw [size_alloc]; exact hv9)
      clear h9 g9 hv9 r0 r1 r2 r3 r4 r5 r6 s0 s1 s2 s3 s4 s5 s6 ST8 P8b Q8b
      go_wp2
      go_roundw
      case rel => exact ⟨_, _, a8, n2, c8, _, v9, _, rfl, rfl, by have := HNQ.out.2; rw [List.length_append]; simp; omega, ST9, HRR⟩
      case measure => have := HNQ.out.2; simp [lenV]; omega

end Go.Proofs.Ytajmbcbochjfmaa
