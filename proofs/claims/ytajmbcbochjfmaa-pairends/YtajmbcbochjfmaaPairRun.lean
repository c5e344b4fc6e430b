/-
  pair.Run.
-/
import Derived.Test.YtajmbcbochjfmaaPairSt
import Derived.Test.YtajmbcbochjfmaaPairNext
import Derived.Test.YtajmbcbochjfmaaFreeRun
import Derived.Test.YtajmbcbochjfmaaRowRefs
namespace Go.Proofs.Ytajmbcbochjfmaa
open Go.RowKit
set_option linter.unusedVariables false
set_option linter.unusedSimpArgs false

set_option maxHeartbeats 16000000 in
set_option maxRecDepth 100000 in
theorem runQ_any (x : BA) (b : Bks) (a : Option Addr) (n c : Nat) (L : List P7) (t : Int) (w : World) (hk : Bk w x b) (gd : Good b) (h : PGood w a n c L) (hq : Que L) (hf : FrOk L) :
    Calls Try.prog 11 #[x.val, .slice a n c, .int .i64 t] w (FreeEnd w (runQ b L t)) := by
  have HL : Hid (n ≤ 40 ∧ n = L.length) := by have := h.len; have := hq.1; exact ⟨by omega, h.len⟩
  have HQ : Hid (Que L ∧ FrOk L ∧ Good b) := ⟨hq, hf, gd⟩
  have HG : Hid (PGood w a n c L) := h
  have HRUN : Hid (LeadsQ b L t [] (runQ b L t)) := runQ_leads b t hq
  have PO : Hid (∀ u, Below w.heap.size w u → Calls Try.prog 25 #[x.val, .slice none 0 0] u (PostEnd u b [])) := fun u hu => post_any x b none 0 0 [] u (hk.below hu) gd (PGood.nil u)
  generalize runQ b L t = R at HRUN ⊢
  obtain ⟨aA, nA, cA, aB, nB, cB, aM, nM, cM, aP, nP, cP⟩ := x
  obtain ⟨w2, hw2⟩ : ∃ w2, w2 = (w.alloc (.cells #[.slice aA nA cA, .slice aB nB cB, .slice aM nM cM, .slice aP nP cP] 27)).alloc (.cells #[.slice none 0 0, .slice none 0 0, .slice none 0 0, .slice none 0 0] 27) := ⟨_, rfl⟩
  have B2 : Hid (Below w.heap.size w w2) := by rw [hw2]; exact (box_below _ _).alloc (box_below _ _).size _
  have X2 : Hid (Box4 w2 w.heap.size ⟨aA, nA, cA, aB, nB, cB, aM, nM, cM, aP, nP, cP⟩) := by rw [hw2]; exact (Box4.new w ⟨aA, nA, cA, aB, nB, cB, aM, nM, cM, aP, nP, cP⟩ _ _).below (box_below _ _)
  have V2 : Hid (BVar w2 (w.heap.size + 1) ba0) := by
    rw [hw2]
    have := BVar.new (w.alloc (.cells #[.slice aA nA cA, .slice aB nB cB, .slice aM nM cM, .slice aP nP cP] 27)) ba0
    rw [size_alloc] at this
    exact this
  have CC := PO.out w2 B2.out
  unfold PostEnd at CC
  rw [postR_nil gd] at CC
  generalize postE b [] = er at CC
  clear hk gd h hq hf PO
  go_enter Try.func11, Try.ntmps11
  go_upto_region 1 with fail
  rw [← hw2]
  clear hw2
  obtain ⟨p0, p1, p2, p3⟩ := X2.out
  replace p0 : w2.cell? ⟨w.heap.size, 0, none⟩ = some (.slice aA nA cA) := p0
  replace p1 : w2.cell? ⟨w.heap.size, 1, none⟩ = some (.slice aB nB cB) := p1
  replace p2 : w2.cell? ⟨w.heap.size, 2, none⟩ = some (.slice aM nM cM) := p2
  replace p3 : w2.cell? ⟨w.heap.size, 3, none⟩ = some (.slice aP nP cP) := p3
  go_wp2_with fail
  go_at_call 25
  refine CC.mono ?_
  rintro e w3 ⟨y, rfl, nb, hb⟩
  obtain ⟨yA, mA, eA, yB, mB, eB, yM, mM, eM, yP, mP, eP⟩ := y
  have V3 : Hid (BVar w3 (w.heap.size + 1) ba0) := V2.out.below hb
  have hs2 : w.heap.size + 2 ≤ w2.heap.size := V2.out.lt
  have B3 : Below w.heap.size w w3 := B2.out.trans (hb.mono B2.out.size)
  have ST4 : Hid (RunC w (w3.setRow (w.heap.size + 1) #[.slice yA mA eA, .slice yB mB eB, .slice yM mM eM, .slice yP mP eP]) ⟨yA, mA, eA, yB, mB, eB, yM, mM, eM, yP, mP, eP⟩ b none 0 0 [] (.slice none 0 0) []) :=
    ⟨(nb.kept fun k hk => setRow_other w3 (w.heap.size + 1) k _ (by have hk : w2.heap.size ≤ k := hk; omega)).base hs2, HQ.out.2.2, PGood.nil _, fun h => by omega, Que.nil, fun p hp => by simp at hp, World.ownsRow_nil _ _ _ _, V3.out.set ⟨yA, mA, eA, yB, mB, eB, yM, mM, eM, yP, mP, eP⟩, Below.setRow B3 (by omega) _⟩
  have hbox := V3.out
  clear CC nb hb hs2 B3 V3 V2 X2 B2 p0 p1 p2 p3
  go_upto_region 2 with (refine store_books rfl _ _ rfl (w.heap.size + 1) ⟨yA, mA, eA, yB, mB, eB, yM, mM, eM, yP, mP, eP⟩ rfl rfl _ hbox rfl ?_)
  clear hbox
  generalize w3.setRow (w.heap.size + 1) #[.slice yA mA eA, .slice yB mB eB, .slice yM mM eM, .slice yP mP eP] = w4 at ST4 ⊢
  have CC := concatP_any w4.heap.size 1 1 [L] (w4.alloc (.cells #[.slice a n c] 23)) (fun i hi => by
    obtain rfl : i = 0 := by simp at hi; omega
    exact ⟨a, n, c, by rw [cell_new]; rfl, (HG.out.below ST4.out.low).below (box_below _ _)⟩) rfl (by omega) (by simp; have := HL.out; omega)
  rw [show [L].flatten = L by simp] at CC
  unfold PEnd at CC
  rw [← HL.out.2] at CC
  go_wp2_with fail
  go_at_call 26
  refine CC.mono ?_
  rintro e w5 ⟨a5, c5, rfl, hg5, hn5, hb⟩
  have b45 : Below w4.heap.size w4 w5 := (box_below _ _).trans (hb.mono (by rw [size_alloc]; omega))
  have ST5 : Hid (RunC w w5 ⟨yA, mA, eA, yB, mB, eB, yM, mM, eM, yP, mP, eP⟩ b a5 n c5 L (.slice none 0 0) []) := ST4.out.drop b45 hg5 (fun x hx => by have := hn5 x hx; rw [size_alloc] at this; omega) HQ.out.1 HQ.out.2.1
  clear CC hg5 hn5 hb b45 ST4
  have NX := nextQ_any ⟨yA, mA, eA, yB, mB, eB, yM, mM, eM, yP, mP, eP⟩ b a5 n c5 L t w5 ST5.out.bk.bk ST5.out.good ST5.out.row (by have := HL.out.1; omega) ST5.out.fr
  obtain ⟨q, hq⟩ : ∃ q, (nextQ b L t).isSome = q := ⟨_, rfl⟩
  obtain ⟨p, hp⟩ : ∃ p, (nextQ b L t).getD n70 = p := ⟨_, rfl⟩
  rw [hq, hp] at NX
  have HN : Hid ((nextQ b L t).isSome = q ∧ (nextQ b L t).getD n70 = p) := ⟨hq, hp⟩
  clear hq hp
  obtain ⟨p, r⟩ := p
  obtain ⟨x0, x1, x2, x3, x4, x5, x6⟩ := p
  obtain ⟨y0, y1, y2, y3, y4, y5, y6⟩ := r
  obtain ⟨p0, p1, p2, p3⟩ := ST5.out.box.box
  replace p0 : w5.cell? ⟨w.heap.size + 1, 0, none⟩ = some (.slice yA mA eA) := p0
  replace p1 : w5.cell? ⟨w.heap.size + 1, 1, none⟩ = some (.slice yB mB eB) := p1
  replace p2 : w5.cell? ⟨w.heap.size + 1, 2, none⟩ = some (.slice yM mM eM) := p2
  replace p3 : w5.cell? ⟨w.heap.size + 1, 3, none⟩ = some (.slice yP mP eP) := p3
  go_wp2_with fail
  go_at_call 9
  refine NX.mono ?_
  rintro e w6 ⟨rfl, hb⟩
  have ST6 := ST5.out.below hb
  obtain ⟨w7, hw7⟩ : ∃ w7, w7 = (w6.alloc (.cells #[.int .i64 x0, .int .i64 x1, .int .i64 x2, .int .i64 x3, .int .i64 x4, .int .i64 x5, .int .i64 x6] 31)).alloc (.cells #[.int .i64 y0, .int .i64 y1, .int .i64 y2, .int .i64 y3, .int .i64 y4, .int .i64 y5, .int .i64 y6] 31) := ⟨_, rfl⟩
  obtain ⟨g, hg⟩ : ∃ g, w6.heap.size = g := ⟨_, rfl⟩
  have SA := ST6.var (x0, x1, x2, x3, x4, x5, x6)
  have SB := SA.1.var (y0, y1, y2, y3, y4, y5, y6)
  have S7 : Hid (RunC w w7 ⟨yA, mA, eA, yB, mB, eB, yM, mM, eM, yP, mP, eP⟩ b a5 n c5 L (.slice none 0 0) []) := by rw [hw7]; exact SB.1
  have V7 : Hid (VarC w w7 a5 n (.slice none 0 0) g (x0, x1, x2, x3, x4, x5, x6)) := by rw [hw7, ← hg]; exact SA.2.below (box_below _ _)
  have U7 : Hid (VarC w w7 a5 n (.slice none 0 0) (g + 1) (y0, y1, y2, y3, y4, y5, y6)) := by
    have := SB.2
    rw [size_alloc, hg] at this
    rw [hw7]
    exact this
  have hne7 : g ≠ g + 1 := by omega
  clear NX hb ST6 ST5 SA SB p0 p1 p2 p3
  go_upto_region 4 with fail
  rw [← hw7]
  clear hw7
  try rw [hg]
  clear hg
  go_wp2
  go_loopw [7, 8, 9, 10, 11] (fun l d z z2 f wr => ∃ (y : BA) (b' : Bks) (a' : Option Addr) (n' c' : Nat) (l' : List P7) (v : Value) (d' : List P7) (g g2 : Nat) (p : P7 × P7) (q : Bool), l = .slice a' n' c' ∧ v = d ∧ z = .pointer (some ⟨g, 0, none⟩) ∧ z2 = .pointer (some ⟨g2, 0, none⟩) ∧ f = .bool q ∧ n' + d'.length ≤ 40 ∧ Hid (g ≠ g2) ∧ Hid (RunC w wr y b' a' n' c' l' v d') ∧ Hid (VarC w wr a' n' v g p.1) ∧ Hid (VarC w wr a' n' v g2 p.2) ∧ Hid ((nextQ b' l' t).isSome = q ∧ (nextQ b' l' t).getD n70 = p) ∧ Hid (LeadsQ b' l' t d' R)) (fun l _ _ _ _ _ => lenV l)
  case atStart => exact ⟨_, b, a5, n, c5, L, _, [], g, g + 1, ((x0, x1, x2, x3, x4, x5, x6), (y0, y1, y2, y3, y4, y5, y6)), q, rfl, rfl, rfl, rfl, rfl, by have := HL.out.1; simp; omega, hne7, S7, V7, U7, HN, HRUN⟩
  case round =>
    obtain ⟨y, b', a', n', c', l', v, d', g1, g2, p', q', rfl, rfl, rfl, rfl, rfl, h40, HGG, ST, VV, UU, HP, HR⟩ := hrel
    clear S7 V7 U7 HN HRUN HL HQ HG hne7
    obtain ⟨yA, mA, eA, yB, mB, eB, yM, mM, eM, yP, mP, eP⟩ := y
    cases q' with
    | false =>
      have HNN : nextQ b' l' t = none := by have := HP.out.1; cases hx : nextQ b' l' t with
        | none => rfl
        | some z => rw [hx] at this; simp at this
      have HE : Hid ((b', l', d') = R) := HR.out.stop HNN
      have S2 := ST.out.end
      obtain ⟨ad, cd, hv, FE⟩ := S2.frees (by omega) HE.out
      subst hv
      have RR : Hid (FreeEnd w R (.returned (.tuple #[BA.val ⟨yA, mA, eA, yB, mB, eB, yM, mM, eM, yP, mP, eP⟩, .slice a' n' c', .slice ad d'.length cd])) (wr.setRow (w.heap.size + 1) #[.slice yA mA eA, .slice yB mB eB, .slice yM mM eM, .slice yP mP eP])) := FE
      have D : Hid (BVar (wr.setRow (w.heap.size + 1) #[.slice yA mA eA, .slice yB mB eB, .slice yM mM eM, .slice yP mP eP]) (w.heap.size + 1) ⟨yA, mA, eA, yB, mB, eB, yM, mM, eM, yP, mP, eP⟩) := S2.box
      have hbox := ST.out.box
      obtain ⟨p0, p1, p2, p3⟩ := ST.out.box.box
      replace p0 : wr.cell? ⟨w.heap.size + 1, 0, none⟩ = some (.slice yA mA eA) := p0
      replace p1 : wr.cell? ⟨w.heap.size + 1, 1, none⟩ = some (.slice yB mB eB) := p1
      replace p2 : wr.cell? ⟨w.heap.size + 1, 2, none⟩ = some (.slice yM mM eM) := p2
      replace p3 : wr.cell? ⟨w.heap.size + 1, 3, none⟩ = some (.slice yP mP eP) := p3
      generalize d'.length = m at RR ⊢
      clear S2 FE HE HNN HR HP VV UU HGG ST h40
      go_wp2_with (refine store_books rfl _ _ rfl (w.heap.size + 1) ⟨yA, mA, eA, yB, mB, eB, yM, mM, eM, yP, mP, eP⟩ rfl rfl _ hbox rfl ?_)
      clear p0 p1 p2 p3 hbox
      generalize wr.setRow (w.heap.size + 1) #[.slice yA mA eA, .slice yB mB eB, .slice yM mM eM, .slice yP mP eP] = wf at RR D ⊢
      obtain ⟨d0, d1, d2, d3⟩ := D.out.box
      go_wp2
      exact bodyPost_ret (v := .tuple #[BA.val ⟨yA, mA, eA, yB, mB, eB, yM, mM, eM, yP, mP, eP⟩, .slice a' n' c', .slice ad m cd]) (by simp [results, Try.results11, d0, d1, d2, d3, go_sem]) rfl RR.out
    | true =>
      have HNN : nextQ b' l' t = some p' := by
        obtain ⟨h1, h2⟩ := HP.out
        cases hx : nextQ b' l' t with
        | none => rw [hx] at h1; simp at h1
        | some z => rw [hx] at h2; simp at h2; rw [h2]
      obtain ⟨p', r'⟩ := p'
      have HST := HR.out.step HNN
      have HNL := nextQ_two ST.out.que HNN
      have hln := ST.out.row.len
      obtain ⟨x0, x1, x2, x3, x4, x5, x6⟩ := p'
      obtain ⟨y0, y1, y2, y3, y4, y5, y6⟩ := r'
      have hid : P7.id (x0, x1, x2, x3, x4, x5, x6) = x0 := rfl
      have hd2 : drop2 l' (x0, x1, x2, x3, x4, x5, x6) (y0, y1, y2, y3, y4, y5, y6) = qDrop (qDrop l' x0) y0 := rfl
      rw [hd2] at HST HNL
      rw [hid] at HNL
      have VP : Hid (VarC w wr a' n' v g1 (x0, x1, x2, x3, x4, x5, x6)) := VV
      have VQ : Hid (VarC w wr a' n' v g2 (y0, y1, y2, y3, y4, y5, y6)) := UU
      obtain ⟨nq, hnq⟩ : ∃ nq, (qDrop l' x0).length = nq := ⟨_, rfl⟩
      obtain ⟨n2, hn2⟩ : ∃ n2, (qDrop (qDrop l' x0) y0).length = n2 := ⟨_, rfl⟩
      rw [hnq, hn2] at HNL
      have HNQ : Hid ((qDrop l' x0).length = nq ∧ nq + 1 = n' ∧ (qDrop (qDrop l' x0) y0).length = n2 ∧ n2 + 2 = n') := ⟨hnq, by omega, hn2, by omega⟩
      have HRR : Hid (LeadsQ (postR b' [(x0, x1, x2, x3, x4, x5, x6), (y0, y1, y2, y3, y4, y5, y6)]) (qDrop (qDrop l' x0) y0) t (d' ++ [(x0, x1, x2, x3, x4, x5, x6), (y0, y1, y2, y3, y4, y5, y6)]) R) := HST
      clear HST HNL hnq hn2 hid hd2 hln HNN HR HP VV UU
      have PO := post_any ⟨yA, mA, eA, yB, mB, eB, yM, mM, eM, yP, mP, eP⟩ b' (some ⟨wr.heap.size, 0, none⟩) 2 2 [(x0, x1, x2, x3, x4, x5, x6), (y0, y1, y2, y3, y4, y5, y6)] _ (ST.out.bk.bk.below (box_below wr _)) ST.out.good (PGood.lit2 wr (x0, x1, x2, x3, x4, x5, x6) (y0, y1, y2, y3, y4, y5, y6))
      unfold PostEnd at PO
      generalize postE b' [(x0, x1, x2, x3, x4, x5, x6), (y0, y1, y2, y3, y4, y5, y6)] = er at PO
      obtain ⟨p0, p1, p2, p3⟩ := ST.out.box.box
      replace p0 : wr.cell? ⟨w.heap.size + 1, 0, none⟩ = some (.slice yA mA eA) := p0
      replace p1 : wr.cell? ⟨w.heap.size + 1, 1, none⟩ = some (.slice yB mB eB) := p1
      replace p2 : wr.cell? ⟨w.heap.size + 1, 2, none⟩ = some (.slice yM mM eM) := p2
      replace p3 : wr.cell? ⟨w.heap.size + 1, 3, none⟩ = some (.slice yP mP eP) := p3
      obtain ⟨r0, r1, r2, r3, r4, r5, r6⟩ := VP.out.1.at7
      simp only [P7.id, P7.fr, P7.to, P7.am, P7.cl, P7.st, P7.ti, Nat.zero_add] at r0 r1 r2 r3 r4 r5 r6
      obtain ⟨s0, s1, s2, s3, s4, s5, s6⟩ := VQ.out.1.at7
      simp only [P7.id, P7.fr, P7.to, P7.am, P7.cl, P7.st, P7.ti, Nat.zero_add] at s0 s1 s2 s3 s4 s5 s6
      go_wp2_with fail
      go_at_call 25
      refine PO.mono ?_
      rintro e w5 ⟨yy, rfl, nb, hb⟩
      have b45 : Below wr.heap.size wr w5 := (box_below _ _).trans (hb.mono (by rw [size_alloc]; omega))
      have ST5 : Hid (RunC w w5 ⟨yA, mA, eA, yB, mB, eB, yM, mM, eM, yP, mP, eP⟩ b' a' n' c' l' v d') := ST.out.below b45
      have V5 : Hid (VarC w w5 a' n' v g1 (x0, x1, x2, x3, x4, x5, x6)) := VP.out.below b45
      have U5 : Hid (VarC w w5 a' n' v g2 (y0, y1, y2, y3, y4, y5, y6)) := VQ.out.below b45
      obtain ⟨zA, lA, kA, zB, lB, kB, zM, lM, kM, zP, lP, kP⟩ := yy
      have ST6 : Hid (RunC w (w5.setRow (w.heap.size + 1) #[.slice zA lA kA, .slice zB lB kB, .slice zM lM kM, .slice zP lP kP]) ⟨zA, lA, kA, zB, lB, kB, zM, lM, kM, zP, lP, kP⟩ (postR b' [(x0, x1, x2, x3, x4, x5, x6), (y0, y1, y2, y3, y4, y5, y6)]) a' n' c' l' v d') :=
        ST5.out.put nb (by have := ST.out.size; rw [size_alloc]; omega) (postR_good ST.out.good _)
      have V6 : Hid (VarC w (w5.setRow (w.heap.size + 1) #[.slice zA lA kA, .slice zB lB kB, .slice zM lM kM, .slice zP lP kP]) a' n' v g1 (x0, x1, x2, x3, x4, x5, x6)) := V5.out.put _
      have U6 : Hid (VarC w (w5.setRow (w.heap.size + 1) #[.slice zA lA kA, .slice zB lB kB, .slice zM lM kM, .slice zP lP kP]) a' n' v g2 (y0, y1, y2, y3, y4, y5, y6)) := U5.out.put _
      have hbox := ST5.out.box
      clear PO nb hb b45 p0 p1 p2 p3 r0 r1 r2 r3 r4 r5 r6 s0 s1 s2 s3 s4 s5 s6 ST VP VQ ST5 V5 U5
      go_upto_region 7 with (refine store_books rfl _ _ rfl (w.heap.size + 1) ⟨zA, lA, kA, zB, lB, kB, zM, lM, kM, zP, lP, kP⟩ rfl rfl _ hbox rfl ?_)
      clear hbox
      generalize w5.setRow (w.heap.size + 1) #[.slice zA lA kA, .slice zB lB kB, .slice zM lM kM, .slice zP lP kP] = w6 at ST6 V6 U6 ⊢
      obtain ⟨r0, r1, r2, r3, r4, r5, r6⟩ := V6.out.1.at7
      simp only [P7.id, P7.fr, P7.to, P7.am, P7.cl, P7.st, P7.ti, Nat.zero_add] at r0 r1 r2 r3 r4 r5 r6
      have DR := drop_any7 a' n' c' l' x0 w6 ST6.out.row (by omega)
      unfold DropEnd7 at DR
      rw [HNQ.out.1] at DR
      obtain ⟨q7, hq7⟩ : ∃ q, qDropP l' x0 = q := ⟨_, rfl⟩
      rw [hq7] at DR
      generalize qDropE l' x0 = er at DR
      clear hq7
      obtain ⟨k0, k1, k2, k3, k4, k5, k6⟩ := q7
      go_wp2_with fail
      go_at_call 27
      refine DR.mono ?_
      rintro e w7 ⟨a7, c7, rfl, hg7, hn7, hb⟩
      have ST7 : Hid (RunC w w7 ⟨zA, lA, kA, zB, lB, kB, zM, lM, kM, zP, lP, kP⟩ (postR b' [(x0, x1, x2, x3, x4, x5, x6), (y0, y1, y2, y3, y4, y5, y6)]) a7 nq c7 (qDrop l' x0) v d') := ST6.out.drop hb hg7 hn7 (ST6.out.que.drop x0) (ST6.out.fr.drop x0)
      have V7 : Hid (VarC w w7 a7 nq v g1 (x0, x1, x2, x3, x4, x5, x6)) := V6.out.drop hb hn7
      have U7 : Hid (VarC w w7 a7 nq v g2 (y0, y1, y2, y3, y4, y5, y6)) := U6.out.drop hb hn7
      clear DR hg7 hn7 hb r0 r1 r2 r3 r4 r5 r6 V6 U6 ST6
      go_upto_region 8 with fail
      obtain ⟨s0, s1, s2, s3, s4, s5, s6⟩ := U7.out.1.at7
      simp only [P7.id, P7.fr, P7.to, P7.am, P7.cl, P7.st, P7.ti, Nat.zero_add] at s0 s1 s2 s3 s4 s5 s6
      have DR := drop_any7 a7 nq c7 (qDrop l' x0) y0 w7 ST7.out.row (by have := HNQ.out.2.1; omega)
      unfold DropEnd7 at DR
      rw [HNQ.out.2.2.1] at DR
      obtain ⟨q7, hq7⟩ : ∃ q, qDropP (qDrop l' x0) y0 = q := ⟨_, rfl⟩
      rw [hq7] at DR
      generalize qDropE (qDrop l' x0) y0 = er2 at DR
      clear hq7
      obtain ⟨f0, f1, f2, f3, f4, f5, f6⟩ := q7
      go_wp2_with fail
      go_at_call 27
      refine DR.mono ?_
      rintro e w8 ⟨a8, c8, rfl, hg8, hn8, hb⟩
      have ST8 : Hid (RunC w w8 ⟨zA, lA, kA, zB, lB, kB, zM, lM, kM, zP, lP, kP⟩ (postR b' [(x0, x1, x2, x3, x4, x5, x6), (y0, y1, y2, y3, y4, y5, y6)]) a8 n2 c8 (qDrop (qDrop l' x0) y0) v d') := ST7.out.drop hb hg8 hn8 (ST7.out.que.drop y0) (ST7.out.fr.drop y0)
      have V8 : Hid (VarC w w8 a8 n2 v g1 (x0, x1, x2, x3, x4, x5, x6)) := V7.out.drop hb hn8
      have U8 : Hid (VarC w w8 a8 n2 v g2 (y0, y1, y2, y3, y4, y5, y6)) := U7.out.drop hb hn8
      clear DR hg8 hn8 hb s0 s1 s2 s3 s4 s5 s6 V7 U7 ST7
      obtain ⟨r0, r1, r2, r3, r4, r5, r6⟩ := V8.out.1.at7
      simp only [P7.id, P7.fr, P7.to, P7.am, P7.cl, P7.st, P7.ti, Nat.zero_add] at r0 r1 r2 r3 r4 r5 r6
      obtain ⟨s0, s1, s2, s3, s4, s5, s6⟩ := U8.out.1.at7
      simp only [P7.id, P7.fr, P7.to, P7.am, P7.cl, P7.st, P7.ti, Nat.zero_add] at s0 s1 s2 s3 s4 s5 s6
      go_wp2_with (at_builtin; refine wpList_append_pays_at rfl _ _ rfl (w.heap.size + 2) v d'.length d' rfl (own_below ST8.out.own (box_below _ _)) ⟨w8.heap.size, 0, none⟩ 2 2 [(x0, x1, x2, x3, x4, x5, x6), (y0, y1, y2, y3, y4, y5, y6)] rfl (PGood.lit2 w8 (x0, x1, x2, x3, x4, x5, x6) (y0, y1, y2, y3, y4, y5, y6)) (by omega) (by have := ST8.out.size; rw [size_alloc]; omega) ?_)
      intro v9 w9 h9 g9 hv9
      have ST9 : Hid (RunC w w9 ⟨zA, lA, kA, zB, lB, kB, zM, lM, kM, zP, lP, kP⟩ (postR b' [(x0, x1, x2, x3, x4, x5, x6), (y0, y1, y2, y3, y4, y5, y6)]) a8 n2 c8 (qDrop (qDrop l' x0) y0) v9 (d' ++ [(x0, x1, x2, x3, x4, x5, x6), (y0, y1, y2, y3, y4, y5, y6)])) := ST8.out.adds (box_below w8 _) _ h9 g9 (by rw [size_alloc]; exact hv9)
      have V9 : Hid (VarC w w9 a8 n2 v9 g1 (x0, x1, x2, x3, x4, x5, x6)) := (V8.out.below (box_below w8 _)).add g9 (by rw [size_alloc]; exact hv9)
      have U9 : Hid (VarC w w9 a8 n2 v9 g2 (y0, y1, y2, y3, y4, y5, y6)) := (U8.out.below (box_below w8 _)).add g9 (by rw [size_alloc]; exact hv9)
      clear h9 g9 hv9 r0 r1 r2 r3 r4 r5 r6 s0 s1 s2 s3 s4 s5 s6 ST8 V8 U8
      obtain ⟨wa, hwa⟩ : ∃ wa, wa = (w9.alloc (.cells #[.int .i64 x0, .int .i64 x1, .int .i64 x2, .int .i64 x3, .int .i64 x4, .int .i64 x5, .int .i64 x6] 31)).alloc (.cells #[.int .i64 y0, .int .i64 y1, .int .i64 y2, .int .i64 y3, .int .i64 y4, .int .i64 y5, .int .i64 y6] 31) := ⟨_, rfl⟩
      obtain ⟨g, hg⟩ : ∃ g, w9.heap.size = g := ⟨_, rfl⟩
      have SA := ST9.out.var (x0, x1, x2, x3, x4, x5, x6)
      have SB := SA.1.var (y0, y1, y2, y3, y4, y5, y6)
      have STa : Hid (RunC w wa ⟨zA, lA, kA, zB, lB, kB, zM, lM, kM, zP, lP, kP⟩ (postR b' [(x0, x1, x2, x3, x4, x5, x6), (y0, y1, y2, y3, y4, y5, y6)]) a8 n2 c8 (qDrop (qDrop l' x0) y0) v9 (d' ++ [(x0, x1, x2, x3, x4, x5, x6), (y0, y1, y2, y3, y4, y5, y6)])) := by rw [hwa]; exact SB.1
      have Va : Hid (VarC w wa a8 n2 v9 g (x0, x1, x2, x3, x4, x5, x6)) := by rw [hwa, ← hg]; exact SA.2.below (box_below _ _)
      have Ua : Hid (VarC w wa a8 n2 v9 (g + 1) (y0, y1, y2, y3, y4, y5, y6)) := by
        have := SB.2
        rw [size_alloc, hg] at this
        rw [hwa]
        exact this
      obtain ⟨r0, r1, r2, r3, r4, r5, r6⟩ := V9.out.1.at7
      simp only [P7.id, P7.fr, P7.to, P7.am, P7.cl, P7.st, P7.ti, Nat.zero_add] at r0 r1 r2 r3 r4 r5 r6
      obtain ⟨s0, s1, s2, s3, s4, s5, s6⟩ := U9.out.1.at7
      simp only [P7.id, P7.fr, P7.to, P7.am, P7.cl, P7.st, P7.ti, Nat.zero_add] at s0 s1 s2 s3 s4 s5 s6
      clear ST9 V9 U9 SA SB
      go_upto_region 5 with fail
      rw [← hwa]
      clear hwa r0 r1 r2 r3 r4 r5 r6 s0 s1 s2 s3 s4 s5 s6
      try rw [hg]
      clear hg
      have NX := nextQ_any ⟨zA, lA, kA, zB, lB, kB, zM, lM, kM, zP, lP, kP⟩ (postR b' [(x0, x1, x2, x3, x4, x5, x6), (y0, y1, y2, y3, y4, y5, y6)]) a8 n2 c8 (qDrop (qDrop l' x0) y0) t wa STa.out.bk.bk STa.out.good STa.out.row (by have := HNQ.out.2; omega) STa.out.fr
      obtain ⟨q, hq⟩ : ∃ q, (nextQ (postR b' [(x0, x1, x2, x3, x4, x5, x6), (y0, y1, y2, y3, y4, y5, y6)]) (qDrop (qDrop l' x0) y0) t).isSome = q := ⟨_, rfl⟩
      obtain ⟨p, hp⟩ : ∃ p, (nextQ (postR b' [(x0, x1, x2, x3, x4, x5, x6), (y0, y1, y2, y3, y4, y5, y6)]) (qDrop (qDrop l' x0) y0) t).getD n70 = p := ⟨_, rfl⟩
      rw [hq, hp] at NX
      have HP : Hid ((nextQ (postR b' [(x0, x1, x2, x3, x4, x5, x6), (y0, y1, y2, y3, y4, y5, y6)]) (qDrop (qDrop l' x0) y0) t).isSome = q ∧ (nextQ (postR b' [(x0, x1, x2, x3, x4, x5, x6), (y0, y1, y2, y3, y4, y5, y6)]) (qDrop (qDrop l' x0) y0) t).getD n70 = p) := ⟨hq, hp⟩
      clear hq hp
      obtain ⟨p, r⟩ := p
      obtain ⟨u0, u1, u2, u3, u4, u5, u6⟩ := p
      obtain ⟨v0, v1, v2, v3, v4, v5, v6⟩ := r
      obtain ⟨p0, p1, p2, p3⟩ := STa.out.box.box
      replace p0 : wa.cell? ⟨w.heap.size + 1, 0, none⟩ = some (.slice zA lA kA) := p0
      replace p1 : wa.cell? ⟨w.heap.size + 1, 1, none⟩ = some (.slice zB lB kB) := p1
      replace p2 : wa.cell? ⟨w.heap.size + 1, 2, none⟩ = some (.slice zM lM kM) := p2
      replace p3 : wa.cell? ⟨w.heap.size + 1, 3, none⟩ = some (.slice zP lP kP) := p3
      go_wp2_with fail
      go_at_call 9
      refine NX.mono ?_
      rintro e wb ⟨rfl, hb⟩
      have STb := STa.out.below hb
      have Vb := Va.out.below hb
      have Ub := Ua.out.below hb
      have hpb := Vb.1
      have S1 := STb.set Vb (u0, u1, u2, u3, u4, u5, u6)
      have U1 := Ub.far (show g + 1 ≠ g by omega) #[.int .i64 u0, .int .i64 u1, .int .i64 u2, .int .i64 u3, .int .i64 u4, .int .i64 u5, .int .i64 u6]
      have hpc := U1.1
      have S2 := S1.1.set U1 (v0, v1, v2, v3, v4, v5, v6)
      have V2 := S1.2.far (show g ≠ g + 1 by omega) #[.int .i64 v0, .int .i64 v1, .int .i64 v2, .int .i64 v3, .int .i64 v4, .int .i64 v5, .int .i64 v6]
      have Sc : Hid (RunC w ((wb.setRow g #[.int .i64 u0, .int .i64 u1, .int .i64 u2, .int .i64 u3, .int .i64 u4, .int .i64 u5, .int .i64 u6]).setRow (g + 1) #[.int .i64 v0, .int .i64 v1, .int .i64 v2, .int .i64 v3, .int .i64 v4, .int .i64 v5, .int .i64 v6]) ⟨zA, lA, kA, zB, lB, kB, zM, lM, kM, zP, lP, kP⟩ (postR b' [(x0, x1, x2, x3, x4, x5, x6), (y0, y1, y2, y3, y4, y5, y6)]) a8 n2 c8 (qDrop (qDrop l' x0) y0) v9 (d' ++ [(x0, x1, x2, x3, x4, x5, x6), (y0, y1, y2, y3, y4, y5, y6)])) := S2.1
      have Vc : Hid (VarC w ((wb.setRow g #[.int .i64 u0, .int .i64 u1, .int .i64 u2, .int .i64 u3, .int .i64 u4, .int .i64 u5, .int .i64 u6]).setRow (g + 1) #[.int .i64 v0, .int .i64 v1, .int .i64 v2, .int .i64 v3, .int .i64 v4, .int .i64 v5, .int .i64 v6]) a8 n2 v9 g (u0, u1, u2, u3, u4, u5, u6)) := V2
      have Uc : Hid (VarC w ((wb.setRow g #[.int .i64 u0, .int .i64 u1, .int .i64 u2, .int .i64 u3, .int .i64 u4, .int .i64 u5, .int .i64 u6]).setRow (g + 1) #[.int .i64 v0, .int .i64 v1, .int .i64 v2, .int .i64 v3, .int .i64 v4, .int .i64 v5, .int .i64 v6]) a8 n2 v9 (g + 1) (v0, v1, v2, v3, v4, v5, v6)) := S2.2
      clear NX hb STb Vb Ub STa Va Ua S1 U1 S2 V2 p0 p1 p2 p3
      go_wp2_with (first | refine store_pay rfl _ _ rfl g (u0, u1, u2, u3, u4, u5, u6) rfl rfl (x0, x1, x2, x3, x4, x5, x6) hpb ?_ | refine store_pay rfl _ _ rfl (g + 1) (v0, v1, v2, v3, v4, v5, v6) rfl rfl (y0, y1, y2, y3, y4, y5, y6) hpc ?_)
      simp only [P7.id, P7.fr, P7.to, P7.am, P7.cl, P7.st, P7.ti]
      try (refine store_pay rfl _ _ rfl (g + 1) (v0, v1, v2, v3, v4, v5, v6) rfl rfl (y0, y1, y2, y3, y4, y5, y6) hpc ?_)
      try simp only [P7.id, P7.fr, P7.to, P7.am, P7.cl, P7.st, P7.ti]
      clear hpb hpc
      generalize (wb.setRow g #[.int .i64 u0, .int .i64 u1, .int .i64 u2, .int .i64 u3, .int .i64 u4, .int .i64 u5, .int .i64 u6]).setRow (g + 1) #[.int .i64 v0, .int .i64 v1, .int .i64 v2, .int .i64 v3, .int .i64 v4, .int .i64 v5, .int .i64 v6] = wc at Sc Vc Uc ⊢
      go_wp2
      have hne : g ≠ g + 1 := by omega
      go_roundw
      case rel => exact ⟨_, _, a8, n2, c8, _, v9, _, g, g + 1, ((u0, u1, u2, u3, u4, u5, u6), (v0, v1, v2, v3, v4, v5, v6)), q, rfl, rfl, rfl, rfl, rfl, by have := HNQ.out.2; rw [List.length_append]; simp; omega, hne, Sc, Vc, Uc, HP, HRR⟩
      case measure => have := HNQ.out.2; simp [lenV]; omega
/-- Run answers as the document's. -/
theorem runQ_as : RunsQ 11 := fun x b a n c L t w h1 h2 h3 h4 h5 => runQ_any x b a n c L t w h1 h2 h3 h4 h5

end Go.Proofs.Ytajmbcbochjfmaa
