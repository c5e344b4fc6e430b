/-
  The walk of FreeEnds.
-/
import Derived.Test.YtgcofidkgohogaaFreeX
import Derived.Test.YtgcofidkgohogaaFreeRunP
import Derived.Test.YtgcofidkgohogaaKnown18
import Derived.Test.YtgcofidkgohogaaRowRefs
import Derived.Test.YtgcofidkgohogaaViewAll
import Derived.Test.YtgcofidkgohogaaRowBase
import Derived.Test.YtgcofidkgohogaaFactsLate
import Derived.Test.YtgcofidkgohogaaLimOne
import Derived.Deep.CutRange
namespace Go.Proofs.Ytgcofidkgohogaa
open Go.RowKit
set_option linter.unusedVariables false
set_option linter.unusedSimpArgs false

set_option maxHeartbeats 16000000 in
set_option maxRecDepth 100000 in
theorem Walk.freeEnds (ah : Option Addr) (nh ch : Nat) (zh : List Int) (way : Int) (a : Option Addr) (n c : Nat) (L : List P7) (t : Int) (w : World) (h0 : Walk.IsRow .i64 w ah nh ch zh) (hway : (Lit.int .i64 way).wf = true) (hp : PaysIn w a n c L) (htw : (Lit.int .i64 t).wf = true) :
    Calls Try.prog 5 #[.slice ah nh ch, .int .i64 way, .slice a n c, .int .i64 t] w fun e w' => e = .returned (.bool true) ∧ Below w.heap.size w w' := by
  rcases Nat.lt_or_ge 30 n with h30 | h30
  · have h1 : (30 : Int) < (n : Int) := by omega
    clear h0 hway hp h30 htw
    go_enter Try.func5, Try.ntmps5
    go_wp2
    go_ret
    exact ⟨rfl, Below.refl _ _⟩
  have h1 : (n : Int) ≤ 30 := by omega
  obtain ⟨hsl, hcap, hmax⟩ := h0.sl fun n hn => by
    simp only [Lit.wf, Bool.and_eq_true, decide_eq_true_eq] at hn
    exact i64_wf hn.1 hn.2
  have S := some_any ah nh ch (zh.take nh) way w hsl (by omega)
  obtain ⟨kb, hkb⟩ : ∃ kb, someK (zh.take nh) (bitB way 1) (bitB way 2) (bitB way 4) = kb := ⟨_, rfl⟩
  rw [hkb] at S
  have GB : Hid (Good kb) := by rw [← hkb]; exact good_some _ _ _ _
  have HG : Hid (PGood w a n c L) := hp.good
  have HL : Hid (n = L.length) := hp.good.len
  obtain ⟨hq, hlen, hall⟩ := rowed_ok (L := L) (by have := HL.out; omega)
  have HR : Hid ((rowedL L).length = n) := by show _ = _; rw [hlen, HL.out]
  have HQ : Hid (Que (rowedL L) ∧ FrOk (rowedL L)) := ⟨hq, RowedP.fr_ok hall⟩
  have RW := fun u (hu : Below w.heap.size w u) => rowed_any a n c L u (HG.out.below hu) (by omega)
  have KN : Hid (∀ u, Calls Try.prog 14 #[] u fun e w' => e = .returned (.bool true) ∧ Below u.heap.size u w') := known18 run_as
  clear hkb hsl h0 hlen hp hway htw hall hq
  go_enter Try.func5, Try.ntmps5
  go_wp2_with fail
  go_at_call 7
  refine S.mono ?_
  rintro e w1 ⟨yb, rfl, nb, bel⟩
  have B1 : Hid (Below w.heap.size w w1) := bel
  have N1 : Hid (Bk w1 yb kb) := nb.bk
  have R := RW w1 bel
  clear S nb bel RW
  go_wp2_with fail
  go_at_call 8
  refine R.mono ?_
  rintro e w2 ⟨ar, cr, rfl, gr, hb⟩
  have BW2 : Hid (Below w.heap.size w w2) := B1.out.trans (hb.mono B1.out.size)
  have N2 : Hid (Bk w2 yb kb) := N1.out.below hb
  have G2 : Hid (PGood w2 ar n cr (rowedL L)) := by rw [← HR.out]; exact gr
  rw [HR.out]
  clear hb R N1 B1 gr
  obtain ⟨aA, nA, cA, aB, nB, cB, aM, nM, cM, aP, nP, cP⟩ := yb
  obtain ⟨w3, hw3⟩ : ∃ w3, w3 = w2.alloc (.cells #[.slice aA nA cA, .slice aB nB cB, .slice aM nM cM, .slice aP nP cP] 27) := ⟨_, rfl⟩
  obtain ⟨z, hz⟩ : ∃ z, w2.heap.size = z := ⟨_, rfl⟩
  have BW3 : Hid (Below w.heap.size w w3) := by rw [hw3]; exact BW2.out.alloc BW2.out.size _
  have X3 : Hid (Box4 w3 z ⟨aA, nA, cA, aB, nB, cB, aM, nM, cM, aP, nP, cP⟩) := by rw [hw3, ← hz]; exact Box4.new w2 ⟨aA, nA, cA, aB, nB, cB, aM, nM, cM, aP, nP, cP⟩ _ _
  have N3 : Hid (Bk w3 ⟨aA, nA, cA, aB, nB, cB, aM, nM, cM, aP, nP, cP⟩ kb) := by rw [hw3]; exact N2.out.below (box_below _ _)
  have G3 : Hid (PGood w3 ar n cr (rowedL L)) := by rw [hw3]; exact G2.out.below (box_below _ _)
  clear N2 G2 BW2
  have CC := run_any ⟨aA, nA, cA, aB, nB, cB, aM, nM, cM, aP, nP, cP⟩ kb ar n cr _ t w3 N3.out GB.out G3.out HQ.out.1 HQ.out.2
  have HRS : Hid (endB kb (runF kb (rowedL L) t).2.2 = (runF kb (rowedL L) t).1 ∧ endL (rowedL L) (runF kb (rowedL L) t).2.2 = (runF kb (rowedL L) t).2.1 ∧ stepsOk kb (rowedL L) t (runF kb (rowedL L) t).2.2) := run_steps kb (rowedL L) t
  have HQ1 : Hid (Que (rowedL L)) := HQ.out.1
  generalize runF kb (rowedL L) t = R at CC HRS
  generalize rowedL L = rl at HQ1 G3 HRS
  clear HR HG HL HQ
  go_upto_region 4 with fail
  rw [← hw3]
  clear hw3
  try rw [hz]
  clear hz
  obtain ⟨p0, p1, p2, p3⟩ := X3.out
  replace p0 : w3.cell? ⟨z, 0, none⟩ = some (.slice aA nA cA) := p0
  replace p1 : w3.cell? ⟨z, 1, none⟩ = some (.slice aB nB cB) := p1
  replace p2 : w3.cell? ⟨z, 2, none⟩ = some (.slice aM nM cM) := p2
  replace p3 : w3.cell? ⟨z, 3, none⟩ = some (.slice aP nP cP) := p3
  go_wp2_with fail
  go_at_call 11
  refine CC.mono ?_
  rintro e w4 ⟨y, al, nl, cl, ad, nd, cd, rfl, bk, gR, gl, qR, gd, h40, hb⟩
  obtain ⟨yA, mA, eA, yB, mB, eB, yM, mM, eM, yP, mP, eP⟩ := y
  obtain ⟨w5, hw5⟩ : ∃ w5, w5 = w4.alloc (.cells #[.slice yA mA eA, .slice yB mB eB, .slice yM mM eM, .slice yP mP eP] 27) := ⟨_, rfl⟩
  obtain ⟨j, hj⟩ : ∃ j, w4.heap.size = j := ⟨_, rfl⟩
  have b45 : Below w4.heap.size w4 w5 := by rw [hw5]; exact box_below _ _
  have b5 : Below w3.heap.size w3 w5 := hb.trans (b45.mono hb.size)
  have BW5 : Hid (Below w.heap.size w w5) := BW3.out.trans (b5.mono BW3.out.size)
  have X5 : Hid (Box4 w5 z ⟨aA, nA, cA, aB, nB, cB, aM, nM, cM, aP, nP, cP⟩) := X3.out.below b5
  have N5 : Hid (Bk w5 ⟨aA, nA, cA, aB, nB, cB, aM, nM, cM, aP, nP, cP⟩ kb) := N3.out.below b5
  have G5 : Hid (PGood w5 ar n cr rl) := G3.out.below b5
  have Y5 : Hid (Box4 w5 j ⟨yA, mA, eA, yB, mB, eB, yM, mM, eM, yP, mP, eP⟩) := by rw [hw5, ← hj]; exact Box4.new w4 ⟨yA, mA, eA, yB, mB, eB, yM, mM, eM, yP, mP, eP⟩ _ _
  have K5 : Hid (Bk w5 ⟨yA, mA, eA, yB, mB, eB, yM, mM, eM, yP, mP, eP⟩ R.1 ∧ Good R.1) := ⟨bk.below b45, gR⟩
  have L5 : Hid (PGood w5 al nl cl R.2.1 ∧ Que R.2.1) := ⟨gl.below b45, qR⟩
  have E5 : Hid (PGood w5 ad nd cd R.2.2 ∧ R.2.2.length ≤ 40) := ⟨gd.below b45, h40⟩
  have hnd : (nd : Int) ≤ 40 := by have := gd.len; omega
  clear CC hb b45 b5 bk gR gl qR gd h40 p0 p1 p2 p3 X3 N3 G3 BW3
  go_upto_region 5 with fail
  rw [← hw5]
  clear hw5
  try rw [hj]
  clear hj
  obtain ⟨w6, hw6⟩ : ∃ w6, w6 = w5.alloc (.cells #[.slice aA nA cA, .slice aB nB cB, .slice aM nM cM, .slice aP nP cP] 27) := ⟨_, rfl⟩
  have X6 : Hid (XSt w5 w6 ⟨aA, nA, cA, aB, nB, cB, aM, nM, cM, aP, nP, cP⟩ kb ar n cr rl) := by rw [hw6]; exact XSt.new N5.out GB.out G5.out HQ1.out
  obtain ⟨p0, p1, p2, p3⟩ := X5.out
  replace p0 : w5.cell? ⟨z, 0, none⟩ = some (.slice aA nA cA) := p0
  replace p1 : w5.cell? ⟨z, 1, none⟩ = some (.slice aB nB cB) := p1
  replace p2 : w5.cell? ⟨z, 2, none⟩ = some (.slice aM nM cM) := p2
  replace p3 : w5.cell? ⟨z, 3, none⟩ = some (.slice aP nP cP) := p3
  go_upto_region 6 with fail
  rw [← hw6]
  clear hw6 p0 p1 p2 p3 X5 N5 G5 GB HQ1
  go_wp2
  go_loopw [15, 16] (fun l i wr => ∃ (k : Nat) (y : BA) (b' : Bks) (a' : Option Addr) (n' c' : Nat) (l' : List P7), k ≤ nd ∧ i = .int .i64 k ∧ l = .slice a' n' c' ∧ Hid (XSt w5 wr y b' a' n' c' l') ∧ Hid (endB b' (R.2.2.drop k) = R.1 ∧ endL l' (R.2.2.drop k) = R.2.1 ∧ stepsOk b' l' t (R.2.2.drop k))) (fun _ i _ => nd - (intOf i).toNat)
  case atStart => exact ⟨0, _, kb, ar, n, cr, rl, by omega, rfl, rfl, X6, HRS⟩
  case round =>
    obtain ⟨k, y, b', a', n', c', l', hk, rfl, rfl, XS, HS⟩ := hrel
    clear X6 HRS
    obtain ⟨vA, lA, dA, vB, lB, dB, vM, lM, dM, vP, lP, dP⟩ := y
    obtain ⟨zx, hzx⟩ : ∃ zx, w5.heap.size = zx := ⟨_, rfl⟩
    have HZX : Hid (w5.heap.size = zx) := hzx
    have n40 : n' ≤ 40 := by have := XS.out.row.len; have := XS.out.que.1; omega
    have XB : Hid (BVar wr zx ⟨vA, lA, dA, vB, lB, dB, vM, lM, dM, vP, lP, dP⟩) := by rw [← hzx]; exact XS.out.box
    try rw [hzx]
    clear hzx
    by_cases hlt : k < nd
    · have k1 : (k : Int) < (nd : Int) := by omega
      have hdl : k < R.2.2.length := by have := E5.out.1.len; omega
      obtain ⟨b1, off, rfl, HC⟩ := E5.out.1.at hlt
      have C0 : Hid (At7 wr b1 (off + k * 7) (R.2.2.getD k p70)) := (HC k hlt).below XS.out.low
      have hcap := E5.out.1.cap
      have GK : Hid (PGood wr (pcut (some ⟨b1, off, none⟩) cd k) 1 (cd - k) [R.2.2.getD k p70]) := by
        have h1 := ((E5.out.1.below XS.out.low).from k (by omega)).take 1 (by omega)
        have h2 : (R.2.2.drop k).take 1 = [R.2.2.getD k p70] := by
          rw [List.drop_eq_getElem_cons hdl, List.take_succ_cons, List.take_zero, getD_get hdl]
        rw [h2] at h1
        exact h1
      have HD : R.2.2.drop k = R.2.2.getD k p70 :: R.2.2.drop (k + 1) := by rw [List.drop_eq_getElem_cons hdl, getD_get hdl]
      have HS2 := HS.out
      rw [HD] at HS2
      generalize R.2.2.getD k p70 = p at C0 GK HS2
      obtain ⟨hs1, hs2, hnx, hs3⟩ := HS2
      obtain ⟨hmay, -, hhas, hfit, hpost⟩ := next_some hnx
      have hfind := find_may hmay
      have HN : Hid (endB (postR b' [p]) (R.2.2.drop (k + 1)) = R.1 ∧ endL (qDrop l' p.id) (R.2.2.drop (k + 1)) = R.2.1 ∧ stepsOk (postR b' [p]) (qDrop l' p.id) t (R.2.2.drop (k + 1))) := ⟨hs1, hs2, hs3⟩
      have MY : Hid (∀ u, Below wr.heap.size wr u → Calls Try.prog 19 #[.slice a' n' c', .int .i64 t] u (PEnd u (vMay l' t))) := fun u hu => refVMay_any a' n' c' l' t u (XS.out.row.below hu) (by omega) XS.out.que.2
      have hmx : (vMay l' t).length ≤ 40 := by have h1 := Nat.le_trans (sel_len (mayK (vReady l' t)) (vReady l' t)) (sel_len (readyK t) l'); have h2 := XS.out.row.len; have h3 : (vMay l' t).length ≤ l'.length := h1; omega
      have FT : Hid (∀ u, Below wr.heap.size wr u → Calls Try.prog 20 #[.agg #[.slice vA lA dA, .slice vB lB dB, .slice vM lM dM, .slice vP lP dP], .slice (pcut (some ⟨b1, off, none⟩) cd k) 1 (cd - k)] u fun e w' => e = .returned (.bool true) ∧ Below u.heap.size u w') := fun u hu => by
        have := refFFits_any ⟨vA, lA, dA, vB, lB, dB, vM, lM, dM, vP, lP, dP⟩ b' _ 1 _ [p] u (XS.out.bks.below hu) XS.out.good (GK.out.below hu)
        rw [hfit] at this
        exact this
      have PT : Hid (∀ (B0 : Nat) (u : World), B0 ≤ u.heap.size → Below wr.heap.size wr u → Calls Try.prog 21 #[.agg #[.slice vA lA dA, .slice vB lB dB, .slice vM lM dM, .slice vP lP dP], .slice (pcut (some ⟨b1, off, none⟩) cd k) 1 (cd - k)] u fun e w' => ∃ v, e = .returned v ∧ Below u.heap.size u w' ∧ (Fact.rp B0 (postR b' [p])).1 w' v) := fun B0 u hB hu => rp_fact hB hpost (refPost_new ⟨vA, lA, dA, vB, lB, dB, vM, lM, dM, vP, lP, dP⟩ b' _ 1 _ [p] u (XS.out.bks.below hu) XS.out.good (GK.out.below hu))
      have DR : Hid (∀ u, Below wr.heap.size wr u → Calls Try.prog 22 #[.slice a' n' c', .int .i64 p.id] u (RDropNew u a' (qDrop l' p.id) (qDropP l' p.id) 0)) := fun u hu => by
        have := refDrop_new a' n' c' l' p.id u (XS.out.row.below hu) (by omega)
        rw [(drop_yes hhas).2.2] at this
        exact this
      have HQD : Hid (Que (qDrop l' p.id) ∧ Good (postR b' [p])) := ⟨XS.out.que.drop p.id, postR_good XS.out.good _⟩
      obtain ⟨M, hM⟩ : ∃ M, vMay l' t = M := ⟨_, rfl⟩
      rw [hM] at MY hfind hmx
      obtain ⟨V, hV⟩ : ∃ V, qFind M p.id = V := ⟨_, rfl⟩
      rw [hV] at hfind
      have HV : Hid (qFind M p.id = V) := hV
      have HFD : Hid (decide (V < 0) = false) := hfind
      have HM40 : Hid (M.length ≤ 40) := hmx
      generalize postR b' [p] = Q at PT HN HQD
      generalize qDrop l' p.id = lq at DR HN HQD
      generalize qDropP l' p.id = pq at DR
      obtain ⟨x0, x1, x2, x3, x4, x5, x6⟩ := p
      have kw : IntKind.i64.wrap ((k : Int) + 1) = k + 1 := i64_wf (by omega) (by omega)
      have XB4 : Hid (Box4 wr zx ⟨vA, lA, dA, vB, lB, dB, vM, lM, dM, vP, lP, dP⟩) := XB.out.box
      clear hdl HD hs1 hs2 hs3 hnx hmay hhas hfit hpost hfind hmx hM hV HS HC
      go_upto_region 9 with fail
      refine region_owes (L := [Fact.is (.slice a' n' c'),
        Fact.is (.int .i64 t),
        Fact.pnew 0 M,
        Fact.is (.slice (some ⟨b1, off, none⟩) nd cd),
        Fact.is (.int .i64 k),
        Fact.is (.pointer (some ⟨b1, off + k * 7, none⟩)),
        Fact.is (.pointer (some ⟨b1, off + k * 7, none⟩)),
        Fact.is (.int .i64 x0),
        Fact.is (.int .i64 V),
        Fact.is (.bool false),
        Fact.is (.bool false),
        Fact.is (.agg #[.slice vA lA dA, .slice vB lB dB, .slice vM lM dM, .slice vP lP dP]),
        Fact.is (.slice (some ⟨b1, off, none⟩) nd cd),
        Fact.is (.int .i64 k),
        Fact.is (.int .i64 k),
        Fact.is (.int .i64 (k + 1)),
        Fact.is (.slice (pcut (some ⟨b1, off, none⟩) cd k) 1 (cd - k)),
        Fact.is (.bool true),
        Fact.is (.bool false),
        Fact.is (.bool false)])
        (T := [48, 49, 50, 51, 52, 53, 54, 55, 56, 57, 58, 59, 60, 61, 62, 63, 64, 65, 66, 67]) (by kernel_rfl) (by kernel_rfl) rfl ?owes ?_
      case owes =>
        refine .cons (owes_move (.tmp 15) (.inl rfl) fun q u lh => ⟨wants_free rfl, lh.old 15 rfl⟩) ?_
        refine .cons (owes_move (.tmp 3) (.inl rfl) fun q u lh => ⟨wants_free rfl, lh.old 3 rfl⟩) ?_
        refine .cons (owes_call 19 Try.func19 (by kernel_rfl) (by kernel_rfl) [.tmp 48, .tmp 49] #[23, 2] rfl fun q u lh => ⟨wants_free rfl, by have e48 : q.tmps.getD 48 undef = .slice a' n' c' := lh.dep 0 rfl; have e49 : q.tmps.getD 49 undef = .int .i64 t := lh.dep 1 rfl; show Calls Try.prog 19 #[q.tmps.getD 48 undef, q.tmps.getD 49 undef] u _; rw [e48, e49]; exact pend_fact (Nat.zero_le _) (MY.out u lh.below)⟩) ?_
        refine .cons (owes_move (.tmp 13) (.inl rfl) fun q u lh => ⟨wants_free rfl, lh.old 13 rfl⟩) ?_
        refine .cons (owes_move (.tmp 16) (.inl rfl) fun q u lh => ⟨wants_free rfl, lh.old 16 rfl⟩) ?_
        refine .cons (owes_value fun q u lh => ⟨wants_free rfl, .pointer (some ⟨b1, off + k * 7, none⟩), by have e51 : q.tmps.getD 51 undef = .slice (some ⟨b1, off, none⟩) nd cd := lh.dep 3 rfl; have e52 : q.tmps.getD 52 undef = .int .i64 k := lh.dep 4 rfl; simp [execOp, Act.eval, e51, e52, k1, go_sem], rfl⟩) ?_
        refine .cons (owes_value fun q u lh => ⟨wants_free rfl, .pointer (some ⟨b1, off + k * 7, none⟩), by have e53 : q.tmps.getD 53 undef = .pointer (some ⟨b1, off + k * 7, none⟩) := lh.dep 5 rfl; simp [execOp, Act.eval, e53, go_sem], rfl⟩) ?_
        refine .cons (owes_value fun q u lh => ⟨wants_free rfl, .int .i64 x0, by have e54 : q.tmps.getD 54 undef = .pointer (some ⟨b1, off + k * 7, none⟩) := lh.dep 6 rfl; obtain ⟨z0, z1, z2, z3, z4, z5, z6⟩ := C0.out.below lh.below; simp only [P7.id, P7.fr, P7.to, P7.am, P7.cl, P7.st, P7.ti] at z0; simp [execOp, Act.eval, e54, z0, go_sem], rfl⟩) ?_
        refine .cons (owes_call 18 Try.func18 (by kernel_rfl) (by kernel_rfl) [.tmp 50, .tmp 55] #[23, 2] rfl fun q u lh => ⟨wants_free rfl, by obtain ⟨aa, cc, e50, g50, -⟩ := lh.dep 2 rfl; have e50 : q.tmps.getD 50 undef = .slice aa M.length cc := e50; have e55 : q.tmps.getD 55 undef = .int .i64 x0 := lh.dep 7 rfl; show Calls Try.prog 18 #[q.tmps.getD 50 undef, q.tmps.getD 55 undef] u _; rw [e50, e55]; exact int_fact ((refFind_any aa M.length cc x0 M u (by have := HM40.out; omega) g50.pays).mono fun e w' h => ⟨by rw [h.1]; exact congrArg (fun v => Ending.returned (.int .i64 v)) HV.out, by rw [h.2]; exact Below.refl _ _⟩)⟩) ?_
        refine .cons (owes_value fun q u lh => ⟨wants_free rfl, .bool false, by have e56 : q.tmps.getD 56 undef = .int .i64 V := lh.dep 8 rfl; simp [execOp, Act.eval, e56, HFD.out, go_sem], rfl⟩) ?_
        refine .cons (owes_move (.tmp 57) (.inl rfl) fun q u lh => ⟨wants_free rfl, lh.dep 9 rfl⟩) ?_
        refine .cons (owes_value fun q u lh => ⟨lh.wants1 10 false rfl rfl rfl, .agg #[.slice vA lA dA, .slice vB lB dB, .slice vM lM dM, .slice vP lP dP], by have e14 : q.tmps.getD 14 undef = .pointer (some ⟨zx, 0, none⟩) := lh.old 14 rfl; obtain ⟨p0, p1, p2, p3⟩ := XB4.out.below lh.below; simp [execOp, Act.eval, e14, p0, p1, p2, p3, go_sem], rfl⟩) ?_
        refine .cons (owes_move (.tmp 13) (.inl rfl) fun q u lh => ⟨lh.wants1 10 false rfl rfl rfl, lh.old 13 rfl⟩) ?_
        refine .cons (owes_move (.tmp 16) (.inl rfl) fun q u lh => ⟨lh.wants1 10 false rfl rfl rfl, lh.old 16 rfl⟩) ?_
        refine .cons (owes_move (.tmp 16) (.inl rfl) fun q u lh => ⟨lh.wants1 10 false rfl rfl rfl, lh.old 16 rfl⟩) ?_
        refine .cons (owes_value fun q u lh => ⟨lh.wants1 10 false rfl rfl rfl, .int .i64 (k + 1), by have e62 : q.tmps.getD 62 undef = .int .i64 k := lh.dep 14 rfl; simp [execOp, Act.eval, e62, kw, go_sem], rfl⟩) ?_
        refine .cons (owes_value fun q u lh => ⟨lh.wants1 10 false rfl rfl rfl, .slice (pcut (some ⟨b1, off, none⟩) cd k) 1 (cd - k), by have e60 : q.tmps.getD 60 undef = .slice (some ⟨b1, off, none⟩) nd cd := lh.dep 12 rfl; have e61 : q.tmps.getD 61 undef = .int .i64 k := lh.dep 13 rfl; have e63 : q.tmps.getD 63 undef = .int .i64 (k + 1) := lh.dep 15 rfl; have z1 : (k : Int) + 1 ≤ cd := (by omega); have z2 : ((k : Int) + 1).toNat = k + 1 := (by omega); have z3 : (k : Int) ≤ (k : Int) + 1 := (by omega); have z4 : k + 1 - k = 1 := (by omega); simp [execOp, Act.eval, e60, e61, e63, z1, z2, z3, z4, pcut, go_sem], rfl⟩) ?_
        refine .cons (owes_call 20 Try.func20 (by kernel_rfl) (by kernel_rfl) [.tmp 59, .tmp 64] #[27, 23] rfl fun q u lh => ⟨lh.wants1 10 false rfl rfl rfl, by have e59 : q.tmps.getD 59 undef = .agg #[.slice vA lA dA, .slice vB lB dB, .slice vM lM dM, .slice vP lP dP] := lh.dep 11 rfl; have e64 : q.tmps.getD 64 undef = .slice (pcut (some ⟨b1, off, none⟩) cd k) 1 (cd - k) := lh.dep 16 rfl; show Calls Try.prog 20 #[q.tmps.getD 59 undef, q.tmps.getD 64 undef] u _; rw [e59, e64]; exact bool_fact (FT.out u lh.below)⟩) ?_
        refine .cons (owes_value fun q u lh => ⟨lh.wants1 10 false rfl rfl rfl, .bool false, by have e65 : q.tmps.getD 65 undef = .bool true := lh.dep 17 rfl; simp [execOp, Act.eval, e65, go_sem], rfl⟩) ?_
        refine .cons (owes_pick (.tmp 58) (.const (.bool true)) (.tmp 66) rfl fun q u lh => ⟨wants_free rfl, false, lh.dep 10 rfl, lh.dep 18 rfl⟩) ?_
        exact .nil _
      intro q u hb hsz hdf hold hfact
      obtain ⟨v50, e50⟩ : ∃ v, q.tmps.getD 50 undef = v := ⟨_, rfl⟩
      have f50 : (Fact.pnew 0 M).1 u v50 := by rw [← e50]; exact hfact 2 (by decide)
      obtain rfl := frame_puts hsz hdf [48, 49, 50, 51, 52, 53, 54, 55, 56, 57, 58, 59, 60, 61, 62, 63, 64, 65, 66, 67] hold [(48, Value.slice a' n' c'), (49, Value.int .i64 t), (50, v50), (51, Value.slice (some ⟨b1, off, none⟩) nd cd), (52, Value.int .i64 k), (53, Value.pointer (some ⟨b1, off + k * 7, none⟩)), (54, Value.pointer (some ⟨b1, off + k * 7, none⟩)), (55, Value.int .i64 x0), (56, Value.int .i64 V), (57, Value.bool false), (58, Value.bool false), (59, Value.agg #[.slice vA lA dA, .slice vB lB dB, .slice vM lM dM, .slice vP lP dP]), (60, Value.slice (some ⟨b1, off, none⟩) nd cd), (61, Value.int .i64 k), (62, Value.int .i64 k), (63, Value.int .i64 (k + 1)), (64, Value.slice (pcut (some ⟨b1, off, none⟩) cd k) 1 (cd - k)), (65, Value.bool true), (66, Value.bool false), (67, Value.bool false)] ⟨hfact 0 (by decide), hfact 1 (by decide), e50, hfact 3 (by decide), hfact 4 (by decide), hfact 5 (by decide), hfact 6 (by decide), hfact 7 (by decide), hfact 8 (by decide), hfact 9 (by decide), hfact 10 (by decide), hfact 11 (by decide), hfact 12 (by decide), hfact 13 (by decide), hfact 14 (by decide), hfact 15 (by decide), hfact 16 (by decide), hfact 17 (by decide), hfact 18 (by decide), hfact 19 (by decide), trivial⟩ rfl
      clear hsz hdf hold hfact
      simp only [puts, Act.put, List.setIfInBounds_toArray, List.set_cons_zero, List.set_cons_succ]
      obtain ⟨w7, rfl⟩ : ∃ z, z = u := ⟨u, rfl⟩
      have XS7 : Hid (XSt w5 w7 ⟨vA, lA, dA, vB, lB, dB, vM, lM, dM, vP, lP, dP⟩ b' a' n' c' l') := XS.out.below hb
      have B7 : Hid (Below wr.heap.size wr w7) := hb
      have C7 : Hid (At7 w7 b1 (off + k * 7) (x0, x1, x2, x3, x4, x5, x6)) := C0.out.below hb
      clear hb MY FT HV HFD HM40 C0 XB XB4
      go_upto_region 11 with fail
      go_cut [17, 18] from 68 to 77 (fun s f wc => ∃ (z : Nat) (y : BA), s = .pointer (some ⟨z, 0, none⟩) ∧ f = .int .i64 0 ∧ Hid (BVar wc z y) ∧ Hid (NewBk wc w7.heap.size y Q) ∧ Hid (Below w7.heap.size w7 wc))
      case first =>
        have XB4 : Hid (Box4 w7 zx ⟨vA, lA, dA, vB, lB, dB, vM, lM, dM, vP, lP, dP⟩) := by rw [← HZX.out]; exact XS7.out.box.box
        refine region_owes_late 11 9 (L := [Fact.is (.agg #[.slice vA lA dA, .slice vB lB dB, .slice vM lM dM, .slice vP lP dP]),
          Fact.is (.slice (some ⟨b1, off, none⟩) nd cd),
          Fact.is (.int .i64 k),
          Fact.is (.int .i64 k),
          Fact.is (.int .i64 (k + 1)),
          Fact.is (.slice (pcut (some ⟨b1, off, none⟩) cd k) 1 (cd - k)),
          Fact.rp w7.heap.size Q,
          Fact.rp w7.heap.size Q,
          Fact.nb w7.heap.size Q,
          Fact.is (.int .i64 0),
          Fact.gvar w7.heap.size])
          (T := [69, 70, 71, 72, 73, 74, 75, 68, 76, 77, 17]) (by kernel_rfl) rfl (Nat.le_of_ble_eq_true rfl) (by kernel_rfl) (by kernel_rfl) (by kernel_rfl) (by kernel_rfl) (by kernel_rfl) rfl ?owes ?_ ?_
        case owes =>
          simp only [List.take_succ_cons, List.take_zero]
          refine .cons (owes_value fun q u lh => ⟨wants_free rfl, .agg #[.slice vA lA dA, .slice vB lB dB, .slice vM lM dM, .slice vP lP dP], by have e14 : q.tmps.getD 14 undef = .pointer (some ⟨zx, 0, none⟩) := lh.old 14 rfl; obtain ⟨p0, p1, p2, p3⟩ := XB4.out.below lh.below; simp [execOp, Act.eval, e14, p0, p1, p2, p3, go_sem], rfl⟩) ?_
          refine .cons (owes_move (.tmp 13) (.inl rfl) fun q u lh => ⟨wants_free rfl, lh.old 13 rfl⟩) ?_
          refine .cons (owes_move (.tmp 16) (.inl rfl) fun q u lh => ⟨wants_free rfl, lh.old 16 rfl⟩) ?_
          refine .cons (owes_move (.tmp 16) (.inl rfl) fun q u lh => ⟨wants_free rfl, lh.old 16 rfl⟩) ?_
          refine .cons (owes_value fun q u lh => ⟨wants_free rfl, .int .i64 (k + 1), by have e72 : q.tmps.getD 72 undef = .int .i64 k := lh.dep 3 rfl; simp [execOp, Act.eval, e72, kw, go_sem], rfl⟩) ?_
          refine .cons (owes_value fun q u lh => ⟨wants_free rfl, .slice (pcut (some ⟨b1, off, none⟩) cd k) 1 (cd - k), by have e70 : q.tmps.getD 70 undef = .slice (some ⟨b1, off, none⟩) nd cd := lh.dep 1 rfl; have e71 : q.tmps.getD 71 undef = .int .i64 k := lh.dep 2 rfl; have e73 : q.tmps.getD 73 undef = .int .i64 (k + 1) := lh.dep 4 rfl; have z1 : (k : Int) + 1 ≤ cd := (by omega); have z2 : ((k : Int) + 1).toNat = k + 1 := (by omega); have z3 : (k : Int) ≤ (k : Int) + 1 := (by omega); have z4 : k + 1 - k = 1 := (by omega); simp [execOp, Act.eval, e70, e71, e73, z1, z2, z3, z4, pcut, go_sem], rfl⟩) ?_
          refine .cons (owes_call 21 Try.func21 (by kernel_rfl) (by kernel_rfl) [.tmp 69, .tmp 74] #[27, 23] rfl fun q u lh => ⟨wants_free rfl, by have e69 : q.tmps.getD 69 undef = .agg #[.slice vA lA dA, .slice vB lB dB, .slice vM lM dM, .slice vP lP dP] := lh.dep 0 rfl; have e74 : q.tmps.getD 74 undef = .slice (pcut (some ⟨b1, off, none⟩) cd k) 1 (cd - k) := lh.dep 5 rfl; show Calls Try.prog 21 #[q.tmps.getD 69 undef, q.tmps.getD 74 undef] u _; rw [e69, e74]; exact PT.out _ u lh.below.size (B7.out.trans (lh.below.mono B7.out.size))⟩) ?_
          refine .cons (owes_move (.tmp 75) (.inl rfl) fun q u lh => ⟨wants_free rfl, lh.dep 6 rfl⟩) ?_
          refine .cons (owes_value fun q1 u lh => by obtain ⟨y, e68, h68⟩ := lh.dep 7 rfl; have e68 : q1.tmps[68]?.getD undef = _ := (Array.getD_eq_getD_getElem? ..).symm.trans e68; exact ⟨wants_free rfl, y.val, by simp [execOp, Act.eval, e68, go_sem], y, rfl, h68⟩) ?_
          refine .cons (owes_value fun q1 u lh => by obtain ⟨y, e68, h68⟩ := lh.dep 7 rfl; have e68 : q1.tmps[68]?.getD undef = _ := (Array.getD_eq_getD_getElem? ..).symm.trans e68; exact ⟨wants_free rfl, .int .i64 0, by simp [execOp, Act.eval, e68, go_sem], rfl⟩) ?_
          refine .cons (owes_make fun q1 u lh => ⟨wants_free rfl, .pointer (some ⟨u.heap.size, 0, none⟩), u.alloc (.cells #[.slice none 0 0, .slice none 0 0, .slice none 0 0, .slice none 0 0] 27), by simp [execOp, Act.eval, go_sem], box_below _ _, ⟨_, rfl, lh.below.size, heap_alloc_new u _⟩⟩) ?_
          exact .nil _
        · intro q1 u hb hsz hdf hold hfact
          obtain ⟨y, ec, -⟩ : (Fact.rp w7.heap.size Q).1 u (q1.tmps.getD 75 undef) := hfact 6 (by decide)
          obtain ⟨yy, em, -⟩ : (Fact.rp w7.heap.size Q).1 u (q1.tmps.getD 68 undef) := hfact 7 (by decide)
          obtain ⟨yx, ex, nx⟩ : (Fact.nb w7.heap.size Q).1 u (q1.tmps.getD 76 undef) := hfact 8 (by decide)
          obtain ⟨z, ez, hz, hzc⟩ : (Fact.gvar w7.heap.size).1 u (q1.tmps.getD 17 undef) := hfact 10 (by decide)
          obtain ⟨gA, hA, iA, gB, hB, iB, gM, hM, iM, gP, hP, iP⟩ := yx
          have hzv : BVar u z ba0 := hzc
          have BB : Hid (Below w7.heap.size w7 (u.setRow z #[.slice gA hA iA, .slice gB hB iB, .slice gM hM iM, .slice gP hP iP])) := Below.setRow hb hz _
          have NN : Hid (NewBk (u.setRow z #[.slice gA hA iA, .slice gB hB iB, .slice gM hM iM, .slice gP hP iP]) w7.heap.size ⟨gA, hA, iA, gB, hB, iB, gM, hM, iM, gP, hP, iP⟩ Q) := nx.far hzv _
          have VV : Hid (BVar (u.setRow z #[.slice gA hA iA, .slice gB hB iB, .slice gM hM iM, .slice gP hP iP]) z ⟨gA, hA, iA, gB, hB, iB, gM, hM, iM, gP, hP, iP⟩) := hzv.set ⟨gA, hA, iA, gB, hB, iB, gM, hM, iM, gP, hP, iP⟩
          obtain rfl := frame_puts hsz hdf [69, 70, 71, 72, 73, 74, 75, 68, 76, 77, 17] hold [(69, Value.agg #[.slice vA lA dA, .slice vB lB dB, .slice vM lM dM, .slice vP lP dP]), (70, Value.slice (some ⟨b1, off, none⟩) nd cd), (71, Value.int .i64 k), (72, Value.int .i64 k), (73, Value.int .i64 (k + 1)), (74, Value.slice (pcut (some ⟨b1, off, none⟩) cd k) 1 (cd - k)), (75, Value.tuple #[y.val, .int .i64 0]), (68, Value.tuple #[yy.val, .int .i64 0]), (76, BA.val ⟨gA, hA, iA, gB, hB, iB, gM, hM, iM, gP, hP, iP⟩), (77, Value.int .i64 0), (17, Value.pointer (some ⟨z, 0, none⟩))] ⟨hfact 0 (by decide), hfact 1 (by decide), hfact 2 (by decide), hfact 3 (by decide), hfact 4 (by decide), hfact 5 (by decide), ec, em, ex, hfact 9 (by decide), ez, trivial⟩ rfl
          clear hsz hdf hold hfact
          simp only [List.drop_succ_cons, List.drop_zero, TailWp, LateWp, List.take_succ_cons, List.take_zero, List.getD_cons_zero, List.getD_cons_succ]
          simp only [puts, Act.put, List.setIfInBounds_toArray, List.set_cons_zero, List.set_cons_succ]
          refine wp_store_row 27 (.tmp 17) (.tmp 76) rfl z #[.slice gA hA iA, .slice gB hB iB, .slice gM hM iM, .slice gP hP iP] rfl rfl _ _ hzc booksSize (by simp) (by simp [Value.oneCell']) ?_
          refine wp_assign _ rfl ?_
          generalize u.setRow z #[.slice gA hA iA, .slice gB hB iB, .slice gM hM iM, .slice gP hP iP] = wf at BB NN VV ⊢
          clear hb hzc hzv nx kw k1
          go_wp2
          go_meet
          exact ⟨z, _, rfl, rfl, VV, NN, BB⟩
        · intro q1 u hb hsz hdf hold hfact
          obtain ⟨y, ec, -⟩ : (Fact.rp w7.heap.size Q).1 u (q1.tmps.getD 75 undef) := hfact 6 (by decide) (by decide)
          obtain ⟨yy, em, -⟩ : (Fact.rp w7.heap.size Q).1 u (q1.tmps.getD 68 undef) := hfact 7 (by decide) (by decide)
          obtain ⟨yx, ex, nx⟩ : (Fact.nb w7.heap.size Q).1 u (q1.tmps.getD 76 undef) := hfact 8 (by decide) (by decide)
          obtain ⟨z, ez, hz, hzc⟩ : (Fact.gvar w7.heap.size).1 u (q1.tmps.getD 17 undef) := hfact 10 (by decide) (by decide)
          obtain ⟨ve, ee⟩ : ∃ v, q1.tmps.getD 77 undef = v := ⟨_, rfl⟩
          obtain ⟨gA, hA, iA, gB, hB, iB, gM, hM, iM, gP, hP, iP⟩ := yx
          have hzv : BVar u z ba0 := hzc
          have BB : Hid (Below w7.heap.size w7 (u.setRow z #[.slice gA hA iA, .slice gB hB iB, .slice gM hM iM, .slice gP hP iP])) := Below.setRow hb hz _
          have NN : Hid (NewBk (u.setRow z #[.slice gA hA iA, .slice gB hB iB, .slice gM hM iM, .slice gP hP iP]) w7.heap.size ⟨gA, hA, iA, gB, hB, iB, gM, hM, iM, gP, hP, iP⟩ Q) := nx.far hzv _
          have VV : Hid (BVar (u.setRow z #[.slice gA hA iA, .slice gB hB iB, .slice gM hM iM, .slice gP hP iP]) z ⟨gA, hA, iA, gB, hB, iB, gM, hM, iM, gP, hP, iP⟩) := hzv.set ⟨gA, hA, iA, gB, hB, iB, gM, hM, iM, gP, hP, iP⟩
          obtain rfl := frame_puts hsz hdf [69, 70, 71, 72, 73, 74, 75, 68, 76, 77, 17] hold [(69, Value.agg #[.slice vA lA dA, .slice vB lB dB, .slice vM lM dM, .slice vP lP dP]), (70, Value.slice (some ⟨b1, off, none⟩) nd cd), (71, Value.int .i64 k), (72, Value.int .i64 k), (73, Value.int .i64 (k + 1)), (74, Value.slice (pcut (some ⟨b1, off, none⟩) cd k) 1 (cd - k)), (75, Value.tuple #[y.val, .int .i64 0]), (68, Value.tuple #[yy.val, .int .i64 0]), (76, BA.val ⟨gA, hA, iA, gB, hB, iB, gM, hM, iM, gP, hP, iP⟩), (77, ve), (17, Value.pointer (some ⟨z, 0, none⟩))] ⟨hfact 0 (by decide) (by decide), hfact 1 (by decide) (by decide), hfact 2 (by decide) (by decide), hfact 3 (by decide) (by decide), hfact 4 (by decide) (by decide), hfact 5 (by decide) (by decide), ec, em, ex, ee, ez, trivial⟩ rfl
          clear hsz hdf hold hfact
          simp only [List.drop_succ_cons, List.drop_zero, TailWp, LateWp, List.take_succ_cons, List.take_zero, List.getD_cons_zero, List.getD_cons_succ]
          simp only [puts, Act.put, List.setIfInBounds_toArray, List.set_cons_zero, List.set_cons_succ]
          refine wp_store_row 27 (.tmp 17) (.tmp 76) rfl z #[.slice gA hA iA, .slice gB hB iB, .slice gM hM iM, .slice gP hP iP] rfl rfl _ _ hzc booksSize (by simp) (by simp [Value.oneCell']) ?_
          refine wp_value (.int .i64 0) (by simp [execOp, Act.eval, go_sem]) ?_
          simp only [Act.put, List.setIfInBounds_toArray, List.set_cons_zero, List.set_cons_succ]
          refine wp_assign _ rfl ?_
          generalize u.setRow z #[.slice gA hA iA, .slice gB hB iB, .slice gM hM iM, .slice gP hP iP] = wf at BB NN VV ⊢
          clear hb hzc hzv nx kw k1
          go_wp2
          go_meet
          exact ⟨z, _, rfl, rfl, VV, NN, BB⟩
      case rest =>
      obtain ⟨zy, y2, hs, hf, VY, NY, BY⟩ := hcut
      subst hs hf
      obtain ⟨gA, hA, iA, gB, hB, iB, gM, hM, iM, gP, hP, iP⟩ := y2
      obtain ⟨w8, rfl⟩ : ∃ z, z = wc := ⟨wc, rfl⟩
      have XS8 : Hid (XSt w5 w8 ⟨vA, lA, dA, vB, lB, dB, vM, lM, dM, vP, lP, dP⟩ b' a' n' c' l') := XS7.out.below BY.out
      have B8 : Hid (Below wr.heap.size wr w8) := B7.out.trans (BY.out.mono B7.out.size)
      have C8 : Hid (At7 w8 b1 (off + k * 7) (x0, x1, x2, x3, x4, x5, x6)) := C7.out.below BY.out
      have N8 : Hid (NewBk w8 w5.heap.size ⟨gA, hA, iA, gB, hB, iB, gM, hM, iM, gP, hP, iP⟩ Q) := NY.out.base (Nat.le_trans XS.out.low.size B7.out.size)
      clear BY NY XS7 B7 C7 PT GK
      have DD := DR.out w8 B8.out
      unfold RDropNew at DD
      obtain ⟨nq, hnq⟩ : ∃ nq, lq.length = nq := ⟨_, rfl⟩
      rw [hnq] at DD
      clear hnq DR
      obtain ⟨r0, r1, r2, r3, r4, r5, r6⟩ := C8.out
      simp only [P7.id, P7.fr, P7.to, P7.am, P7.cl, P7.st, P7.ti] at r0 r1 r2 r3 r4 r5 r6
      go_wp2_with fail
      go_at_call 22
      refine DD.mono ?_
      rintro e w9 ⟨a7, c7, rfl, hg7, -, hb⟩
      have XS9 : Hid (XSt w5 w9 ⟨vA, lA, dA, vB, lB, dB, vM, lM, dM, vP, lP, dP⟩ b' a' n' c' l') := XS8.out.below hb
      have V9 : Hid (BVar w9 zy ⟨gA, hA, iA, gB, hB, iB, gM, hM, iM, gP, hP, iP⟩) := VY.out.below hb
      have N9 : Hid (NewBk w9 w5.heap.size ⟨gA, hA, iA, gB, hB, iB, gM, hM, iM, gP, hP, iP⟩ Q) := N8.out.below hb
      have G9 : Hid (PGood w9 a7 nq c7 lq) := hg7
      clear DD hb hg7 r0 r1 r2 r3 r4 r5 r6 C8 XS8 VY N8 B8
      obtain ⟨wa, hwa⟩ : ∃ wa, wa = w9.alloc (.cells #[.int .i64 pq.id, .int .i64 pq.fr, .int .i64 pq.to, .int .i64 pq.am, .int .i64 pq.cl, .int .i64 pq.st, .int .i64 pq.ti] 31) := ⟨_, rfl⟩
      have ba : Below w9.heap.size w9 wa := by rw [hwa]; exact box_below _ _
      have XSa : Hid (XSt w5 wa ⟨vA, lA, dA, vB, lB, dB, vM, lM, dM, vP, lP, dP⟩ b' a' n' c' l') := XS9.out.below ba
      have Va : Hid (BVar wa zy ⟨gA, hA, iA, gB, hB, iB, gM, hM, iM, gP, hP, iP⟩) := V9.out.below ba
      have SS := XSa.out.step (Below.refl _ _) (N9.out.below ba) HQD.out.2 (G9.out.below ba) HQD.out.1
      have hbox := XSa.out.box
      rw [HZX.out] at SS hbox
      have ST : Hid (XSt w5 (wa.setRow zx #[.slice gA hA iA, .slice gB hB iB, .slice gM hM iM, .slice gP hP iP]) ⟨gA, hA, iA, gB, hB, iB, gM, hM, iM, gP, hP, iP⟩ Q a7 nq c7 lq) := SS
      clear ba SS XS9 V9 N9 G9
      go_upto_region 13 with fail
      rw [← hwa]
      clear hwa
      obtain ⟨p0, p1, p2, p3⟩ := Va.out.box
      replace p0 : wa.cell? ⟨zy, 0, none⟩ = some (.slice gA hA iA) := p0
      replace p1 : wa.cell? ⟨zy, 1, none⟩ = some (.slice gB hB iB) := p1
      replace p2 : wa.cell? ⟨zy, 2, none⟩ = some (.slice gM hM iM) := p2
      replace p3 : wa.cell? ⟨zy, 3, none⟩ = some (.slice gP hP iP) := p3
      go_upto_region 8 with (refine store_books rfl _ _ rfl zx ⟨gA, hA, iA, gB, hB, iB, gM, hM, iM, gP, hP, iP⟩ rfl rfl _ hbox rfl ?_)
      clear hbox p0 p1 p2 p3 XSa Va
      generalize wa.setRow zx #[.slice gA hA iA, .slice gB hB iB, .slice gM hM iM, .slice gP hP iP] = wb at ST ⊢
      go_wp2
      go_roundw
      case rel => exact ⟨k + 1, _, Q, a7, nq, c7, lq, by omega, by go_num, rfl, ST, HN⟩
      case measure => simp [intOf]; omega
    · obtain rfl : k = nd := by omega
      have hd : R.2.2.drop k = [] := List.drop_eq_nil_of_le (by have := E5.out.1.len; omega)
      have HS2 := HS.out
      rw [hd] at HS2
      obtain ⟨hs1, hs2, hs3⟩ := HS2
      have hs1 : b' = R.1 := hs1
      have hs2 : l' = R.2.1 := hs2
      have hs3 : nextP b' l' t = none := hs3
      have hll := L5.out.1.len
      have NX := refNext_any ⟨yA, mA, eA, yB, mB, eB, yM, mM, eM, yP, mP, eP⟩ R.1 al nl cl R.2.1 t wr (K5.out.1.below XS.out.low) K5.out.2 (L5.out.1.below XS.out.low) (by have := L5.out.2.1; omega) L5.out.2.2
      rw [← hs1, ← hs2, hs3] at NX
      subst hs1 hs2
      obtain ⟨p0, p1, p2, p3⟩ := Y5.out.below XS.out.low
      replace p0 : wr.cell? ⟨j, 0, none⟩ = some (.slice yA mA eA) := p0
      replace p1 : wr.cell? ⟨j, 1, none⟩ = some (.slice yB mB eB) := p1
      replace p2 : wr.cell? ⟨j, 2, none⟩ = some (.slice yM mM eM) := p2
      replace p3 : wr.cell? ⟨j, 3, none⟩ = some (.slice yP mP eP) := p3
      clear hd hs3 hll HS
      go_wp2_with fail
      go_at_call 10
      refine NX.mono ?_
      rintro e w7 ⟨he, hb⟩
      have he : e = .returned (.tuple #[.agg #[.int .i64 0, .int .i64 0, .int .i64 0, .int .i64 0, .int .i64 0, .int .i64 0, .int .i64 0], .bool false]) := he
      subst he
      obtain ⟨w8, hw8⟩ : ∃ w8, w8 = w7.alloc (.cells #[.int .i64 0, .int .i64 0, .int .i64 0, .int .i64 0, .int .i64 0, .int .i64 0, .int .i64 0] 31) := ⟨_, rfl⟩
      have b8 : Below wr.heap.size wr w8 := by rw [hw8]; exact hb.trans ((box_below _ _).mono hb.size)
      have XS8 : Hid (XSt w5 w8 ⟨vA, lA, dA, vB, lB, dB, vM, lM, dM, vP, lP, dP⟩ R.1 a' n' c' R.2.1) := XS.out.below b8
      clear NX hb b8 p0 p1 p2 p3 XS XB
      go_upto_region 17 with fail
      rw [← hw8]
      clear hw8
      have BW8 : Hid (Below w.heap.size w w8) := BW5.out.trans (XS8.out.low.mono BW5.out.size)
      have S1 := refSame_any ⟨yA, mA, eA, yB, mB, eB, yM, mM, eM, yP, mP, eP⟩ ⟨vA, lA, dA, vB, lB, dB, vM, lM, dM, vP, lP, dP⟩ R.1 R.1 w8 (K5.out.1.below XS8.out.low) XS8.out.bks
      rw [show sameB R.1 R.1 = true from sameB_yes.2 rfl] at S1
      have S2 : Hid (∀ u, Below w8.heap.size w8 u → Calls Try.prog 24 #[.slice al nl cl, .slice a' n' c'] u fun e w' => e = .returned (.bool true) ∧ Below u.heap.size u w') := fun u hu => same_true al a' nl n' cl c' R.2.1 u ((L5.out.1.below XS8.out.low).below hu) (XS8.out.row.below hu)
      obtain ⟨p0, p1, p2, p3⟩ := Y5.out.below XS8.out.low
      replace p0 : w8.cell? ⟨j, 0, none⟩ = some (.slice yA mA eA) := p0
      replace p1 : w8.cell? ⟨j, 1, none⟩ = some (.slice yB mB eB) := p1
      replace p2 : w8.cell? ⟨j, 2, none⟩ = some (.slice yM mM eM) := p2
      replace p3 : w8.cell? ⟨j, 3, none⟩ = some (.slice yP mP eP) := p3
      have XB : BVar w8 zx ⟨vA, lA, dA, vB, lB, dB, vM, lM, dM, vP, lP, dP⟩ := by rw [← HZX.out]; exact XS8.out.box
      obtain ⟨o0, o1, o2, o3⟩ := XB.box
      replace o0 : w8.cell? ⟨zx, 0, none⟩ = some (.slice vA lA dA) := o0
      replace o1 : w8.cell? ⟨zx, 1, none⟩ = some (.slice vB lB dB) := o1
      replace o2 : w8.cell? ⟨zx, 2, none⟩ = some (.slice vM lM dM) := o2
      replace o3 : w8.cell? ⟨zx, 3, none⟩ = some (.slice vP lP dP) := o3
      clear XB
      go_wp2_with fail
      go_at_call 23
      refine S1.mono ?_
      rintro e w9 ⟨rfl, hb⟩
      have BW9 : Hid (Below w.heap.size w w9) := BW8.out.trans (hb.mono BW8.out.size)
      have S2 := S2.out w9 hb
      clear S1 hb p0 p1 p2 p3 o0 o1 o2 o3
      go_wp2_with fail
      go_at_call 24
      refine S2.mono ?_
      rintro e wa ⟨rfl, hb⟩
      have BWa : Hid (Below w.heap.size w wa) := BW9.out.trans (hb.mono BW9.out.size)
      have KK := KN.out wa
      clear S2 hb
      go_wp2_with fail
      go_at_call 14
      refine KK.mono ?_
      rintro e wb ⟨rfl, hb⟩
      have BWb : Hid (Below w.heap.size w wb) := BWa.out.trans (hb.mono BWa.out.size)
      clear KK hb
      go_wp2
      go_ret
      exact ⟨rfl, BWb.out⟩

end Go.Proofs.Ytgcofidkgohogaa
