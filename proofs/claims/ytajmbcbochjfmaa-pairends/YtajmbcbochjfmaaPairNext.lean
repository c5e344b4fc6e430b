/-
  pair: Next.
-/
import Derived.Test.YtajmbcbochjfmaaPairDo
import Derived.Test.YtajmbcbochjfmaaPairRows
namespace Go.Proofs.Ytajmbcbochjfmaa
open Go.RowKit
set_option linter.unusedVariables false
set_option linter.unusedSimpArgs false

set_option maxHeartbeats 16000000 in
set_option maxRecDepth 100000 in
theorem nextQ_any (x : BA) (b : Bks) (a : Option Addr) (n c : Nat) (L : List P7) (t : Int) (w : World) (hk : Bk w x b) (gd : Good b) (h : PGood w a n c L) (hm : n ≤ 100000) (hf : FrOk L) :
    Calls Try.prog 9 #[x.val, .slice a n c, .int .i64 t] w fun e w' => e = .returned (.tuple #[((nextQ b L t).getD n70).1.val, ((nextQ b L t).getD n70).2.val, .bool (nextQ b L t).isSome]) ∧ Below w.heap.size w w' := by
  have MY := fun u (hu : Below w.heap.size w u) => viewMay_any a n c L t u (h.below hu) hm hf
  have hmx : (vMay L t).length ≤ 100000 := by have h1 := Nat.le_trans (sel_len (mayK (vReady L t)) (vReady L t)) (sel_len (readyK t) L); have h2 := h.len; have h3 : (vMay L t).length ≤ L.length := h1; omega
  have BO := fun (p : P7) (a' : Option Addr) (c' : Nat) u (hu : Below w.heap.size w u) (hg : PGood u a' (vMay L t).length c' (vMay L t)) => backOf_any x b a' (vMay L t).length c' (vMay L t) p u (hk.below hu) gd hg hmx
  have HFIND : Hid (∀ k q, k < (vMay L t).length → (∀ j, j < k → firstQ b (vMay L t) ((vMay L t).getD j p70) = none) → firstQ b (vMay L t) ((vMay L t).getD k p70) = some q → nextQ b L t = some ((vMay L t).getD k p70, q)) := fun k q h1 h2 h3 => pairL_here h1 h2 h3
  have HNONE : Hid ((∀ j, j < (vMay L t).length → firstQ b (vMay L t) ((vMay L t).getD j p70) = none) → nextQ b L t = none) := fun h => pairL_none h
  unfold PEnd at MY
  generalize nextQ b L t = N at HFIND HNONE ⊢
  generalize vMay L t = M at MY HFIND HNONE hmx BO
  obtain ⟨m, hml⟩ : ∃ m, M.length = m := ⟨_, rfl⟩
  rw [hml] at HFIND HNONE MY hmx BO
  have HLM : Hid (m = M.length) := hml.symm
  clear hml
  obtain ⟨aA, nA, cA, aB, nB, cB, aM, nM, cM, aP, nP, cP⟩ := x
  obtain ⟨w2, hw2⟩ : ∃ w2, w2 = ((w.alloc (.cells #[.slice aA nA cA, .slice aB nB cB, .slice aM nM cM, .slice aP nP cP] 27)).alloc (.cells #[.int .i64 0, .int .i64 0, .int .i64 0, .int .i64 0, .int .i64 0, .int .i64 0, .int .i64 0] 31)).alloc (.cells #[.int .i64 0, .int .i64 0, .int .i64 0, .int .i64 0, .int .i64 0, .int .i64 0, .int .i64 0] 31) := ⟨_, rfl⟩
  have b1 : Below w.heap.size w ((w.alloc (.cells #[.slice aA nA cA, .slice aB nB cB, .slice aM nM cM, .slice aP nP cP] 27)).alloc (.cells #[.int .i64 0, .int .i64 0, .int .i64 0, .int .i64 0, .int .i64 0, .int .i64 0, .int .i64 0] 31)) := (box_below _ _).alloc (box_below _ _).size _
  have B2 : Hid (Below w.heap.size w w2) := by rw [hw2]; exact b1.alloc b1.size _
  have X2 : Hid (Box4 w2 w.heap.size ⟨aA, nA, cA, aB, nB, cB, aM, nM, cM, aP, nP, cP⟩) := by rw [hw2]; exact ((Box4.new w ⟨aA, nA, cA, aB, nB, cB, aM, nM, cM, aP, nP, cP⟩ _ _).below (box_below _ _)).below (box_below _ _)
  have P2 : Hid (PBox w2 (w.heap.size + 1) p70) := by
    rw [hw2]
    have := (PBox.new (w.alloc (.cells #[.slice aA nA cA, .slice aB nB cB, .slice aM nM cM, .slice aP nP cP] 27)) p70).below (box_below _ (.cells #[.int .i64 0, .int .i64 0, .int .i64 0, .int .i64 0, .int .i64 0, .int .i64 0, .int .i64 0] 31))
    rw [size_alloc] at this
    exact this
  have Q2 : Hid (PBox w2 (w.heap.size + 2) p70) := by
    rw [hw2]
    have := PBox.new ((w.alloc (.cells #[.slice aA nA cA, .slice aB nB cB, .slice aM nM cM, .slice aP nP cP] 27)).alloc (.cells #[.int .i64 0, .int .i64 0, .int .i64 0, .int .i64 0, .int .i64 0, .int .i64 0, .int .i64 0] 31)) p70
    rw [size_alloc, size_alloc] at this
    exact this
  have MY := MY w2 B2.out
  have BOT : Hid (∀ (z0 z1 z2 z3 z4 z5 z6 : Int) (a' : Option Addr) (c' : Nat) u, Below w.heap.size w u → PGood u a' m c' M → Calls Try.prog 22 #[.agg #[.slice aA nA cA, .slice aB nB cB, .slice aM nM cM, .slice aP nP cP], .slice a' m c', .agg #[.int .i64 z0, .int .i64 z1, .int .i64 z2, .int .i64 z3, .int .i64 z4, .int .i64 z5, .int .i64 z6]] u fun e w' => e = .returned (.tuple #[((firstQ b M (z0, z1, z2, z3, z4, z5, z6)).getD p70).val, .bool (firstQ b M (z0, z1, z2, z3, z4, z5, z6)).isSome]) ∧ Below u.heap.size u w') := fun z0 z1 z2 z3 z4 z5 z6 => BO (z0, z1, z2, z3, z4, z5, z6)
  have HMX : Hid (m ≤ 100000) := hmx
  clear hk gd h hm hf BO hmx b1
  show Calls Try.prog 9 #[.agg #[.slice aA nA cA, .slice aB nB cB, .slice aM nM cM, .slice aP nP cP], .slice a n c, .int .i64 t] w _
  go_enter Try.func9, Try.ntmps9
  go_upto_region 1 with fail
  rw [← hw2]
  clear hw2
  go_wp2_with fail
  go_at_call 21
  refine MY.mono ?_
  rintro e w3 ⟨a1, c1, rfl, hg, _, hb⟩
  have B3 : Hid (Below w.heap.size w w3) := B2.out.trans (hb.mono B2.out.size)
  have X3 : Hid (Box4 w3 w.heap.size ⟨aA, nA, cA, aB, nB, cB, aM, nM, cM, aP, nP, cP⟩) := X2.out.below hb
  have P3 : Hid (PBox w3 (w.heap.size + 1) p70) := P2.out.below hb
  have Q3 : Hid (PBox w3 (w.heap.size + 2) p70) := Q2.out.below hb
  have G3 : Hid (PGood w3 a1 m c1 M) := hg
  clear hb hg MY X2 P2 B2 Q2
  go_wp2
  go_loopw [19] (fun i wr => ∃ k : Nat, k ≤ m ∧ i = .int .i64 k ∧ Hid (∀ j, j < k → firstQ b M (M.getD j p70) = none) ∧ Hid (Below w3.heap.size w3 wr)) (fun i _ => m - (intOf i).toNat)
  case atStart => exact ⟨0, by omega, rfl, fun j hj => by omega, Below.refl _ _⟩
  case round =>
    obtain ⟨k, hk, rfl, HNO, HB⟩ := hrel
    have BW : Hid (Below w.heap.size w wr) := B3.out.trans (HB.out.mono B3.out.size)
    have m63 := HMX.out
    by_cases hlt : k < m
    · have k1 : (k : Int) < (m : Int) := by omega
      have G0 := G3.out
      obtain ⟨b1, off, rfl, HC⟩ := G3.out.at hlt
      have C0 : Hid (At7 wr b1 (off + k * 7) (M.getD k p70)) := (HC k hlt).below HB.out
      have HF := fun q => HFIND.out k q hlt HNO.out
      have HS : Hid (firstQ b M (M.getD k p70) = none → ∀ j, j < k + 1 → firstQ b M (M.getD j p70) = none) := fun h j hj => by
        by_cases hjk : j < k
        · exact HNO.out j hjk
        · obtain rfl : j = k := by omega
          exact h
      generalize M.getD k p70 = y at C0 HF HS
      obtain ⟨y0, y1, y2, y3, y4, y5, y6⟩ := y
      obtain ⟨w4, hw4⟩ : ∃ w4, w4 = wr.alloc (.cells #[.int .i64 y0, .int .i64 y1, .int .i64 y2, .int .i64 y3, .int .i64 y4, .int .i64 y5, .int .i64 y6] 31) := ⟨_, rfl⟩
      obtain ⟨g, hg⟩ : ∃ g, wr.heap.size = g := ⟨_, rfl⟩
      have b4 : Below wr.heap.size wr w4 := by rw [hw4]; exact box_below _ _
      have P4 : Hid (PBox w4 g (y0, y1, y2, y3, y4, y5, y6)) := by rw [hw4, ← hg]; exact PBox.new wr (y0, y1, y2, y3, y4, y5, y6)
      have HGW : Hid (w.heap.size + 2 < g) := by have := Q3.out.lt; have := HB.out.size; show _ < g; omega
      have B4 : Hid (Below w.heap.size w w4) := BW.out.trans (b4.mono BW.out.size)
      have BB4 : Hid (Below w3.heap.size w3 w4) := HB.out.trans (b4.mono HB.out.size)
      have X4 : Hid (Box4 w4 w.heap.size ⟨aA, nA, cA, aB, nB, cB, aM, nM, cM, aP, nP, cP⟩) := (X3.out.below HB.out).below b4
      have G4 : Hid (PGood w4 (some ⟨b1, off, none⟩) m c1 M) := G0.below BB4.out
      obtain ⟨z0, z1, z2, z3, z4, z5, z6⟩ := C0.out
      simp only [P7.id, P7.fr, P7.to, P7.am, P7.cl, P7.st, P7.ti, Nat.zero_add] at z0 z1 z2 z3 z4 z5 z6
      clear b4 BW HB C0 G0
      go_upto_region 5 with fail
      rw [← hw4]
      clear hw4 z0 z1 z2 z3 z4 z5 z6
      try rw [hg]
      clear hg
      have CC := BOT.out y0 y1 y2 y3 y4 y5 y6 _ _ w4 B4.out G4.out
      obtain ⟨q, hq⟩ : ∃ q, firstQ b M (y0, y1, y2, y3, y4, y5, y6) = q := ⟨_, rfl⟩
      rw [hq] at HF HS CC
      have HFF : Hid (∀ q', q = some q' → N = some ((y0, y1, y2, y3, y4, y5, y6), q')) := HF
      clear hq HF
      have HQS : Hid (q = none ∨ ∃ r, q = some r) := by cases q with
        | none => exact .inl rfl
        | some r => exact .inr ⟨r, rfl⟩
      obtain ⟨f, hf⟩ : ∃ f, q.isSome = f := ⟨_, rfl⟩
      obtain ⟨r, hr⟩ : ∃ r, q.getD p70 = r := ⟨_, rfl⟩
      rw [hf, hr] at CC
      have HFR : Hid (q.isSome = f ∧ q.getD p70 = r) := ⟨hf, hr⟩
      clear hf hr
      obtain ⟨v0, v1, v2, v3, v4, v5, v6⟩ := r
      obtain ⟨p0, p1, p2, p3⟩ := X4.out
      replace p0 : w4.cell? ⟨w.heap.size, 0, none⟩ = some (.slice aA nA cA) := p0
      replace p1 : w4.cell? ⟨w.heap.size, 1, none⟩ = some (.slice aB nB cB) := p1
      replace p2 : w4.cell? ⟨w.heap.size, 2, none⟩ = some (.slice aM nM cM) := p2
      replace p3 : w4.cell? ⟨w.heap.size, 3, none⟩ = some (.slice aP nP cP) := p3
      obtain ⟨r0, r1, r2, r3, r4, r5, r6⟩ := P4.out.at7
      simp only [P7.id, P7.fr, P7.to, P7.am, P7.cl, P7.st, P7.ti, Nat.zero_add] at r0 r1 r2 r3 r4 r5 r6
      go_wp2_with fail
      go_at_call 22
      refine CC.mono ?_
      rintro e w5 ⟨rfl, hb⟩
      obtain ⟨w6, hw6⟩ : ∃ w6, w6 = w5.alloc (.cells #[.int .i64 v0, .int .i64 v1, .int .i64 v2, .int .i64 v3, .int .i64 v4, .int .i64 v5, .int .i64 v6] 31) := ⟨_, rfl⟩
      obtain ⟨g2, hg2⟩ : ∃ g2, w5.heap.size = g2 := ⟨_, rfl⟩
      have b56 : Below w5.heap.size w5 w6 := by rw [hw6]; exact box_below _ _
      have b46 : Below w4.heap.size w4 w6 := hb.trans (b56.mono hb.size)
      have B6 : Hid (Below w.heap.size w w6) := B4.out.trans (b46.mono B4.out.size)
      have BB6 : Hid (Below w3.heap.size w3 w6) := BB4.out.trans (b46.mono BB4.out.size)
      have P6 : Hid (PBox w6 (w.heap.size + 1) p70) := P3.out.below BB6.out
      have Q6 : Hid (PBox w6 (w.heap.size + 2) p70) := Q3.out.below BB6.out
      have C6 : Hid (PBox w6 g (y0, y1, y2, y3, y4, y5, y6)) := P4.out.below b46
      have D6 : Hid (PBox w6 g2 (v0, v1, v2, v3, v4, v5, v6)) := by rw [hw6, ← hg2]; exact PBox.new w5 (v0, v1, v2, v3, v4, v5, v6)
      have HG2 : Hid (w.heap.size + 2 < g2) := by have := HGW.out; have := P4.out.lt; have := hb.size; show _ < g2; omega
      clear CC hb p0 p1 p2 p3 r0 r1 r2 r3 r4 r5 r6 X4 P4 B4 BB4 b56 b46
      cases f with
      | true =>
        have hq : q = some (v0, v1, v2, v3, v4, v5, v6) := by
          obtain ⟨h1, h2⟩ := HFR.out
          rcases HQS.out with h | ⟨r, h⟩
          · rw [h] at h1; cases h1
          · rw [h] at h2; rw [h]; exact congrArg some h2
        have hn : N = some ((y0, y1, y2, y3, y4, y5, y6), (v0, v1, v2, v3, v4, v5, v6)) := HFF.out _ hq
        have HGB : Hid (w.heap.size + 2 < g ∧ w.heap.size + 2 < g2) := ⟨HGW.out, HG2.out⟩
        go_upto_region 7 with fail
        rw [← hw6]
        clear hw6
        try rw [hg2]
        clear hg2 hq
        have Q2 : PBox w6 (w.heap.size + 1 + 1) p70 := Q6.out
        have q2 : Below w.heap.size w ((w6.setRow (w.heap.size + 1) #[.int .i64 y0, .int .i64 y1, .int .i64 y2, .int .i64 y3, .int .i64 y4, .int .i64 y5, .int .i64 y6]).setRow (w.heap.size + 1 + 1) #[.int .i64 v0, .int .i64 v1, .int .i64 v2, .int .i64 v3, .int .i64 v4, .int .i64 v5, .int .i64 v6]) := Below.setRow (Below.setRow B6.out (by omega) _) (by omega) _
        have RR : Hid (N = some ((y0, y1, y2, y3, y4, y5, y6), (v0, v1, v2, v3, v4, v5, v6)) ∧ Below w.heap.size w ((w6.setRow (w.heap.size + 1) #[.int .i64 y0, .int .i64 y1, .int .i64 y2, .int .i64 y3, .int .i64 y4, .int .i64 y5, .int .i64 y6]).setRow (w.heap.size + 1 + 1) #[.int .i64 v0, .int .i64 v1, .int .i64 v2, .int .i64 v3, .int .i64 v4, .int .i64 v5, .int .i64 v6]).drew) := ⟨hn, q2.trans ((drawn_below _ 1).mono q2.size)⟩
        have YY := two_rows P6.out Q2 (by omega) (y0, y1, y2, y3, y4, y5, y6) (v0, v1, v2, v3, v4, v5, v6)
        have Y1 : Hid (PBox ((w6.setRow (w.heap.size + 1) #[.int .i64 y0, .int .i64 y1, .int .i64 y2, .int .i64 y3, .int .i64 y4, .int .i64 y5, .int .i64 y6]).setRow (w.heap.size + 1 + 1) #[.int .i64 v0, .int .i64 v1, .int .i64 v2, .int .i64 v3, .int .i64 v4, .int .i64 v5, .int .i64 v6]).drew (w.heap.size + 1) (y0, y1, y2, y3, y4, y5, y6)) := YY.1.below (drawn_below _ 1)
        have Y2 : Hid (PBox ((w6.setRow (w.heap.size + 1) #[.int .i64 y0, .int .i64 y1, .int .i64 y2, .int .i64 y3, .int .i64 y4, .int .i64 y5, .int .i64 y6]).setRow (w.heap.size + 1 + 1) #[.int .i64 v0, .int .i64 v1, .int .i64 v2, .int .i64 v3, .int .i64 v4, .int .i64 v5, .int .i64 v6]).drew (w.heap.size + 1 + 1) (v0, v1, v2, v3, v4, v5, v6)) := YY.2.below (drawn_below _ 1)
        have EC : ((((((((((((((w6.setCell ⟨w.heap.size + 1, 0, none⟩ (.int .i64 y0)).setCell ⟨w.heap.size + 1, 1, none⟩ (.int .i64 y1)).setCell ⟨w.heap.size + 1, 2, none⟩ (.int .i64 y2)).setCell ⟨w.heap.size + 1, 3, none⟩ (.int .i64 y3)).setCell ⟨w.heap.size + 1, 4, none⟩ (.int .i64 y4)).setCell ⟨w.heap.size + 1, 5, none⟩ (.int .i64 y5)).setCell ⟨w.heap.size + 1, 6, none⟩ (.int .i64 y6)).setCell ⟨w.heap.size + 1 + 1, 0, none⟩ (.int .i64 v0)).setCell ⟨w.heap.size + 1 + 1, 1, none⟩ (.int .i64 v1)).setCell ⟨w.heap.size + 1 + 1, 2, none⟩ (.int .i64 v2)).setCell ⟨w.heap.size + 1 + 1, 3, none⟩ (.int .i64 v3)).setCell ⟨w.heap.size + 1 + 1, 4, none⟩ (.int .i64 v4)).setCell ⟨w.heap.size + 1 + 1, 5, none⟩ (.int .i64 v5)).setCell ⟨w.heap.size + 1 + 1, 6, none⟩ (.int .i64 v6)) = ((w6.setRow (w.heap.size + 1) #[.int .i64 y0, .int .i64 y1, .int .i64 y2, .int .i64 y3, .int .i64 y4, .int .i64 y5, .int .i64 y6]).setRow (w.heap.size + 1 + 1) #[.int .i64 v0, .int .i64 v1, .int .i64 v2, .int .i64 v3, .int .i64 v4, .int .i64 v5, .int .i64 v6]) := by
          show payChain (payChain w6 (w.heap.size + 1) (y0, y1, y2, y3, y4, y5, y6)) (w.heap.size + 1 + 1) (v0, v1, v2, v3, v4, v5, v6) = _
          rw [payChain_eq P6.out (y0, y1, y2, y3, y4, y5, y6), payChain_eq (Q2.far (by omega) _) (v0, v1, v2, v3, v4, v5, v6)]
        clear hn HFF HS HNO HFR HQS q2 YY
        obtain ⟨r0, r1, r2, r3, r4, r5, r6⟩ := C6.out.at7
        simp only [P7.id, P7.fr, P7.to, P7.am, P7.cl, P7.st, P7.ti, Nat.zero_add] at r0 r1 r2 r3 r4 r5 r6
        obtain ⟨s0, s1, s2, s3, s4, s5, s6⟩ := D6.out.at7
        simp only [P7.id, P7.fr, P7.to, P7.am, P7.cl, P7.st, P7.ti, Nat.zero_add] at s0 s1 s2 s3 s4 s5 s6
        have fr1 := P6.out.froz
        have fr2 : ∀ i, w6.frozen? ⟨w.heap.size + 1 + 1, i, none⟩ = false := Q2.froz
        have hg1 := HGB.out.1
        have hg2 := HGB.out.2
        obtain ⟨k0, k1, k2, k3, k4, k5, k6⟩ := P6.out.at7
        simp only [P7.id, P7.fr, P7.to, P7.am, P7.cl, P7.st, P7.ti, Nat.zero_add] at k0 k1 k2 k3 k4 k5 k6
        obtain ⟨l0, l1, l2, l3, l4, l5, l6⟩ := Q2.at7
        simp only [P7.id, P7.fr, P7.to, P7.am, P7.cl, P7.st, P7.ti, Nat.zero_add] at l0 l1 l2 l3 l4 l5 l6
        go_region
        try rw [EC]
        clear EC r0 r1 r2 r3 r4 r5 r6 s0 s1 s2 s3 s4 s5 s6 k0 k1 k2 k3 k4 k5 k6 l0 l1 l2 l3 l4 l5 l6 fr1 fr2 hg1 hg2 Q2
        generalize ((w6.setRow (w.heap.size + 1) #[.int .i64 y0, .int .i64 y1, .int .i64 y2, .int .i64 y3, .int .i64 y4, .int .i64 y5, .int .i64 y6]).setRow (w.heap.size + 1 + 1) #[.int .i64 v0, .int .i64 v1, .int .i64 v2, .int .i64 v3, .int .i64 v4, .int .i64 v5, .int .i64 v6]).drew = wf at RR Y1 Y2 ⊢
        obtain ⟨d0, d1, d2, d3, d4, d5, d6⟩ := Y1.out.at7
        simp only [P7.id, P7.fr, P7.to, P7.am, P7.cl, P7.st, P7.ti, Nat.zero_add] at d0 d1 d2 d3 d4 d5 d6
        obtain ⟨e0, e1, e2, e3, e4, e5, e6⟩ := Y2.out.at7
        simp only [P7.id, P7.fr, P7.to, P7.am, P7.cl, P7.st, P7.ti, Nat.zero_add] at e0 e1 e2 e3 e4 e5 e6
        go_wp2
        exact bodyPost_ret (v := .tuple #[.agg #[.int .i64 y0, .int .i64 y1, .int .i64 y2, .int .i64 y3, .int .i64 y4, .int .i64 y5, .int .i64 y6], .agg #[.int .i64 v0, .int .i64 v1, .int .i64 v2, .int .i64 v3, .int .i64 v4, .int .i64 v5, .int .i64 v6], .bool true]) (by simp [results, Try.results9, d0, d1, d2, d3, d4, d5, d6, e0, e1, e2, e3, e4, e5, e6, go_sem]) rfl ⟨by rw [RR.out.1]; rfl, RR.out.2⟩
      | false =>
        have hq : q = none := by
          obtain ⟨h1, h2⟩ := HFR.out
          rcases HQS.out with h | ⟨r, h⟩
          · exact h
          · rw [h] at h1; cases h1
        have HN2 : Hid (∀ j, j < k + 1 → firstQ b M (M.getD j p70) = none) := HS.out hq
        have kw : IntKind.i64.wrap ((k : Int) + 1) = k + 1 := i64_wf (by omega) (by omega)
        clear HS HFF HNO C6 D6 P6 Q6 B6 hq HFR HQS HGW HG2
        go_upto_region 8 with fail
        rw [← hw6]
        clear hw6 hg2
        go_wp2
        go_roundw
        case rel => exact ⟨k + 1, by omega, by go_num, HN2, BB6⟩
        case measure => simp [intOf]; omega
    · obtain rfl : k = m := by omega
      have hn : N = none := HNONE.out HNO.out
      have PR : Hid (PBox wr (w.heap.size + 1) p70) := P3.out.below HB.out
      have QR : Hid (PBox wr (w.heap.size + 2) p70) := Q3.out.below HB.out
      have q2 : Below w.heap.size w ((wr.setRow (w.heap.size + 1) #[.int .i64 p70.id, .int .i64 p70.fr, .int .i64 p70.to, .int .i64 p70.am, .int .i64 p70.cl, .int .i64 p70.st, .int .i64 p70.ti]).setRow (w.heap.size + 2) #[.int .i64 p70.id, .int .i64 p70.fr, .int .i64 p70.to, .int .i64 p70.am, .int .i64 p70.cl, .int .i64 p70.st, .int .i64 p70.ti]) := Below.setRow (Below.setRow BW.out (by omega) _) (by omega) _
      have RR : Hid (N = none ∧ Below w.heap.size w ((wr.setRow (w.heap.size + 1) #[.int .i64 p70.id, .int .i64 p70.fr, .int .i64 p70.to, .int .i64 p70.am, .int .i64 p70.cl, .int .i64 p70.st, .int .i64 p70.ti]).setRow (w.heap.size + 2) #[.int .i64 p70.id, .int .i64 p70.fr, .int .i64 p70.to, .int .i64 p70.am, .int .i64 p70.cl, .int .i64 p70.st, .int .i64 p70.ti])) := ⟨hn, q2⟩
      have YF : PBox (wr.setRow (w.heap.size + 1) #[.int .i64 p70.id, .int .i64 p70.fr, .int .i64 p70.to, .int .i64 p70.am, .int .i64 p70.cl, .int .i64 p70.st, .int .i64 p70.ti]) (w.heap.size + 2) p70 := QR.out.far (by omega) _
      have YY := two_rows PR.out QR.out (by omega) p70 p70
      have Y1 : Hid (PBox ((wr.setRow (w.heap.size + 1) #[.int .i64 p70.id, .int .i64 p70.fr, .int .i64 p70.to, .int .i64 p70.am, .int .i64 p70.cl, .int .i64 p70.st, .int .i64 p70.ti]).setRow (w.heap.size + 2) #[.int .i64 p70.id, .int .i64 p70.fr, .int .i64 p70.to, .int .i64 p70.am, .int .i64 p70.cl, .int .i64 p70.st, .int .i64 p70.ti]) (w.heap.size + 1) p70) := YY.1
      have Y2 : Hid (PBox ((wr.setRow (w.heap.size + 1) #[.int .i64 p70.id, .int .i64 p70.fr, .int .i64 p70.to, .int .i64 p70.am, .int .i64 p70.cl, .int .i64 p70.st, .int .i64 p70.ti]).setRow (w.heap.size + 2) #[.int .i64 p70.id, .int .i64 p70.fr, .int .i64 p70.to, .int .i64 p70.am, .int .i64 p70.cl, .int .i64 p70.st, .int .i64 p70.ti]) (w.heap.size + 1 + 1) p70) := YY.2
      clear hn HNO HB q2 YY
      go_wp2_with (first | refine store_pay rfl _ _ rfl (w.heap.size + 1) p70 rfl rfl p70 PR.out ?_ | refine store_pay rfl _ _ rfl (w.heap.size + 2) p70 rfl rfl p70 YF ?_)
      clear YF
      generalize ((wr.setRow (w.heap.size + 1) #[.int .i64 p70.id, .int .i64 p70.fr, .int .i64 p70.to, .int .i64 p70.am, .int .i64 p70.cl, .int .i64 p70.st, .int .i64 p70.ti]).setRow (w.heap.size + 2) #[.int .i64 p70.id, .int .i64 p70.fr, .int .i64 p70.to, .int .i64 p70.am, .int .i64 p70.cl, .int .i64 p70.st, .int .i64 p70.ti]) = wf at RR Y1 Y2 ⊢
      obtain ⟨d0, d1, d2, d3, d4, d5, d6⟩ := Y1.out.at7
      simp only [P7.id, P7.fr, P7.to, P7.am, P7.cl, P7.st, P7.ti, Nat.zero_add] at d0 d1 d2 d3 d4 d5 d6
      obtain ⟨e0, e1, e2, e3, e4, e5, e6⟩ := Y2.out.at7
      simp only [P7.id, P7.fr, P7.to, P7.am, P7.cl, P7.st, P7.ti, Nat.zero_add] at e0 e1 e2 e3 e4 e5 e6
      simp only [p70, P7.id, P7.fr, P7.to, P7.am, P7.cl, P7.st, P7.ti] at d0 d1 d2 d3 d4 d5 d6 e0 e1 e2 e3 e4 e5 e6
      try go_wp2
      exact bodyPost_ret (v := .tuple #[.agg #[.int .i64 0, .int .i64 0, .int .i64 0, .int .i64 0, .int .i64 0, .int .i64 0, .int .i64 0], .agg #[.int .i64 0, .int .i64 0, .int .i64 0, .int .i64 0, .int .i64 0, .int .i64 0, .int .i64 0], .bool false]) (by simp [results, Try.results9, d0, d1, d2, d3, d4, d5, d6, e0, e1, e2, e3, e4, e5, e6, go_sem]) rfl ⟨by rw [RR.out.1]; rfl, RR.out.2⟩

end Go.Proofs.Ytajmbcbochjfmaa
