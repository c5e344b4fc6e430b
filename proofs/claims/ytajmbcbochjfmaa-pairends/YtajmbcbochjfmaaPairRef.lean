/-
  giroref19.Next: the document's answer.
-/
import Derived.Test.YtajmbcbochjfmaaPairSpec
import Derived.Test.YtajmbcbochjfmaaFreeRef
import Derived.Test.YtajmbcbochjfmaaRowRefs
import Derived.Test.YtajmbcbochjfmaaPairRows
namespace Go.Proofs.Ytajmbcbochjfmaa
open Go.RowKit
set_option linter.unusedVariables false
set_option linter.unusedSimpArgs false

set_option maxHeartbeats 16000000 in
set_option maxRecDepth 100000 in
theorem refNextQ_any (x : BA) (b : Bks) (a : Option Addr) (n c : Nat) (L : List P7) (t : Int) (w : World) (hk : Bk w x b) (gd : Good b) (h : PGood w a n c L) (hm : n ≤ 100000) (hq : L.Pairwise QR) :
    Calls Try.prog 10 #[x.val, .slice a n c, .int .i64 t] w fun e w' => e = .returned (.tuple #[((nextQ b L t).getD n70).1.val, ((nextQ b L t).getD n70).2.val, .bool (nextQ b L t).isSome]) ∧ Below w.heap.size w w' := by
  have MY := fun u (hu : Below w.heap.size w u) => refVMay_any a n c L t u (h.below hu) hm hq
  have hmx : (vMay L t).length ≤ 100000 := by have h1 := Nat.le_trans (sel_len (mayK (vReady L t)) (vReady L t)) (sel_len (readyK t) L); have h2 := h.len; have h3 : (vMay L t).length ≤ L.length := h1; omega
  have GO := fun (p q : P7) (a' : Option Addr) (c' : Nat) u (hu : Below w.heap.size w u) (hg : PGood u a' 2 c' [p, q]) => refGoes_any x b a' 2 c' [p, q] u (hk.below hu) gd hg
  have HROW : Hid (∀ k, k < (vMay L t).length → (∀ j, j < (vMay L t).length → isPair b ((vMay L t).getD k p70) ((vMay L t).getD j p70) = false) → firstQ b (vMay L t) ((vMay L t).getD k p70) = none) := fun k _ h => find_nothing (f := isPair b ((vMay L t).getD k p70)) (d := p70) h
  have HFIND : Hid (∀ k l, k < (vMay L t).length → l < (vMay L t).length → (∀ j, j < k → firstQ b (vMay L t) ((vMay L t).getD j p70) = none) → (∀ j, j < l → isPair b ((vMay L t).getD k p70) ((vMay L t).getD j p70) = false) → isPair b ((vMay L t).getD k p70) ((vMay L t).getD l p70) = true → nextQ b L t = some ((vMay L t).getD k p70, (vMay L t).getD l p70)) := fun k l h1 h2 h3 h4 h5 => pairL_here h1 h3 (find_here (f := isPair b ((vMay L t).getD k p70)) h2 h4 h5)
  have HNONE : Hid ((∀ j, j < (vMay L t).length → firstQ b (vMay L t) ((vMay L t).getD j p70) = none) → nextQ b L t = none) := fun h => pairL_none h
  unfold PEnd at MY
  generalize nextQ b L t = N at HFIND HNONE ⊢
  generalize vMay L t = M at MY HFIND HNONE HROW hmx
  obtain ⟨m, hml⟩ : ∃ m, M.length = m := ⟨_, rfl⟩
  rw [hml] at HFIND HNONE HROW MY hmx
  have HLM : Hid (m = M.length) := hml.symm
  clear hml
  obtain ⟨aA, nA, cA, aB, nB, cB, aM, nM, cM, aP, nP, cP⟩ := x
  obtain ⟨w2, hw2⟩ : ∃ w2, w2 = ((w.alloc (.cells #[.slice aA nA cA, .slice aB nB cB, .slice aM nM cM, .slice aP nP cP] 27)).alloc (.cells #[.int .i64 0, .int .i64 0, .int .i64 0, .int .i64 0, .int .i64 0, .int .i64 0, .int .i64 0] 31)).alloc (.cells #[.int .i64 0, .int .i64 0, .int .i64 0, .int .i64 0, .int .i64 0, .int .i64 0, .int .i64 0] 31) := ⟨_, rfl⟩
  have b1 : Below w.heap.size w ((w.alloc (.cells #[.slice aA nA cA, .slice aB nB cB, .slice aM nM cM, .slice aP nP cP] 27)).alloc (.cells #[.int .i64 0, .int .i64 0, .int .i64 0, .int .i64 0, .int .i64 0, .int .i64 0, .int .i64 0] 31)) := (box_below _ _).alloc (box_below _ _).size _
  have B2 : Hid (Below w.heap.size w w2) := by rw [hw2]; exact b1.alloc b1.size _
  have X2 : Hid (Box4 w2 w.heap.size ⟨aA, nA, cA, aB, nB, cB, aM, nM, cM, aP, nP, cP⟩) := by rw [hw2]; exact ((Box4.new w ⟨aA, nA, cA, aB, nB, cB, aM, nM, cM, aP, nP, cP⟩ _ _).below (box_below _ _)).below (box_below _ _)
  have P2 : Hid (PBox w2 (w.heap.size + 1) p70) := by
    rw [hw2]
    have := (PBox.new (w.alloc (.cells #[.slice aA nA cA, .slice aB nB cB, .slice aM nM cM, .slice aP nP cP] 27)) p70).below (box_below _ (.cells #[.int .i64 0, .int .i64 0, .int .i64 0, .int .i64 0, .int .i64 0, .int .i64 0, .int .i64 0] 31))
    rw [size_alloc] at this
    exact this
  have Q2 : Hid (PBox w2 (w.heap.size + 2) p70) := by
    rw [hw2]
    have := PBox.new ((w.alloc (.cells #[.slice aA nA cA, .slice aB nB cB, .slice aM nM cM, .slice aP nP cP] 27)).alloc (.cells #[.int .i64 0, .int .i64 0, .int .i64 0, .int .i64 0, .int .i64 0, .int .i64 0, .int .i64 0] 31)) p70
    rw [size_alloc, size_alloc] at this
    exact this
  have MY := MY w2 B2.out
  have GOT : Hid (∀ (p q : P7) (a' : Option Addr) (c' : Nat) u, Below w.heap.size w u → PGood u a' 2 c' [p, q] → Calls Try.prog 24 #[.agg #[.slice aA nA cA, .slice aB nB cB, .slice aM nM cM, .slice aP nP cP], .slice a' 2 c'] u (GoesEnd u b [p, q])) := GO
  have HMX : Hid (m ≤ 100000) := hmx
  have HIS : Hid (∀ p q, isPair b p q = (backB p q && goesB b [p, q])) := fun p q => rfl
  clear hk gd h hm hq GO hmx b1
  show Calls Try.prog 10 #[.agg #[.slice aA nA cA, .slice aB nB cB, .slice aM nM cM, .slice aP nP cP], .slice a n c, .int .i64 t] w _
  go_enter Try.func10, Try.ntmps10
  go_upto_region 1 with fail
  rw [← hw2]
  clear hw2
  go_wp2_with fail
  go_at_call 23
  refine MY.mono ?_
  rintro e w3 ⟨a1, c1, rfl, hg, _, hb⟩
  have B3 : Hid (Below w.heap.size w w3) := B2.out.trans (hb.mono B2.out.size)
  have X3 : Hid (Box4 w3 w.heap.size ⟨aA, nA, cA, aB, nB, cB, aM, nM, cM, aP, nP, cP⟩) := X2.out.below hb
  have P3 : Hid (PBox w3 (w.heap.size + 1) p70) := P2.out.below hb
  have Q3 : Hid (PBox w3 (w.heap.size + 2) p70) := Q2.out.below hb
  have G3 : Hid (PGood w3 a1 m c1 M) := hg
  clear hb hg MY X2 P2 B2 Q2
  go_wp2
  go_loopw [10] (fun i wr => ∃ k : Nat, k ≤ m ∧ i = .int .i64 k ∧ Hid (∀ j, j < k → firstQ b M (M.getD j p70) = none) ∧ Hid (Below w3.heap.size w3 wr)) (fun i _ => m - (intOf i).toNat)
  case atStart => exact ⟨0, by omega, rfl, fun j hj => by omega, Below.refl _ _⟩
  case round =>
    obtain ⟨wo, rfl⟩ : ∃ wo, wo = wr := ⟨wr, rfl⟩
    obtain ⟨k, hk, rfl, HNO, HB⟩ := hrel
    have m63 := HMX.out
    by_cases hlt : k < m
    · have k1 : (k : Int) < (m : Int) := by omega
      have G0 : Hid (PGood w3 a1 m c1 M) := G3
      obtain ⟨b1, off, rfl, HC3⟩ := G3.out.at hlt
      have HC : Hid (∀ i, i < m → At7 w3 b1 (off + i * 7) (M.getD i p70)) := HC3
      have HRW := HROW.out k hlt
      have HFD := fun l (hl : l < m) => HFIND.out k l hlt hl HNO.out
      obtain ⟨y, hy⟩ : ∃ y, M.getD k p70 = y := ⟨_, rfl⟩
      rw [hy] at HRW HFD
      have CX : Hid (At7 w3 b1 (off + k * 7) y) := by rw [← hy]; exact HC.out k hlt
      have HRW : Hid ((∀ j, j < m → isPair b y (M.getD j p70) = false) → firstQ b M y = none) := HRW
      have HFD : Hid (∀ l, l < m → (∀ j, j < l → isPair b y (M.getD j p70) = false) → isPair b y (M.getD l p70) = true → N = some (y, M.getD l p70)) := HFD
      have HY : Hid (M.getD k p70 = y) := hy
      clear hy HC3
      obtain ⟨x0, x1, x2, x3, x4, x5, x6⟩ := y
      go_wp2
      go_loopw [11] (fun i wr => ∃ l : Nat, l ≤ m ∧ i = .int .i64 l ∧ Hid (∀ j, j < l → isPair b (x0, x1, x2, x3, x4, x5, x6) (M.getD j p70) = false) ∧ Hid (Below w3.heap.size w3 wr)) (fun i _ => m - (intOf i).toNat)
      case atStart => exact ⟨0, by omega, rfl, fun j hj => by omega, HB⟩
      case round =>
        obtain ⟨l, hl, rfl, HNL, HBL⟩ := hrel
        have BW : Hid (Below w.heap.size w wr) := B3.out.trans (HBL.out.mono B3.out.size)
        have m63 := HMX.out
        by_cases hll : l < m
        · have l1 : (l : Int) < (m : Int) := by omega
          have CA : Hid (At7 wr b1 (off + k * 7) (x0, x1, x2, x3, x4, x5, x6)) := CX.out.below HBL.out
          have CB : Hid (At7 wr b1 (off + l * 7) (M.getD l p70)) := (HC.out l hll).below HBL.out
          have HF := HFD.out l hll HNL.out
          have HS : Hid (isPair b (x0, x1, x2, x3, x4, x5, x6) (M.getD l p70) = false → ∀ j, j < l + 1 → isPair b (x0, x1, x2, x3, x4, x5, x6) (M.getD j p70) = false) := fun h j hj => by
            by_cases hjk : j < l
            · exact HNL.out j hjk
            · obtain rfl : j = l := by omega
              exact h
          generalize M.getD l p70 = y at CB HF HS
          obtain ⟨y0, y1, y2, y3, y4, y5, y6⟩ := y
          have HF : Hid (isPair b (x0, x1, x2, x3, x4, x5, x6) (y0, y1, y2, y3, y4, y5, y6) = true → N = some ((x0, x1, x2, x3, x4, x5, x6), (y0, y1, y2, y3, y4, y5, y6))) := HF
          go_upto_region 8 with fail
          go_cut [12, 13] from 31 to 39 (fun s f wc => ∃ (g g2 : Nat), s = .pointer (some ⟨g, 0, none⟩) ∧ f = .pointer (some ⟨g2, 0, none⟩) ∧ Hid (PBox wc g (x0, x1, x2, x3, x4, x5, x6)) ∧ Hid (PBox wc g2 (y0, y1, y2, y3, y4, y5, y6)) ∧ Hid (wr.heap.size ≤ g ∧ wr.heap.size ≤ g2) ∧ Hid (Below wr.heap.size wr wc))
          case first =>
            obtain ⟨r0, r1, r2, r3, r4, r5, r6⟩ := CA.out
            simp only [P7.id, P7.fr, P7.to, P7.am, P7.cl, P7.st, P7.ti, Nat.zero_add] at r0 r1 r2 r3 r4 r5 r6
            obtain ⟨s0, s1, s2, s3, s4, s5, s6⟩ := CB.out
            simp only [P7.id, P7.fr, P7.to, P7.am, P7.cl, P7.st, P7.ti, Nat.zero_add] at s0 s1 s2 s3 s4 s5 s6
            have hlt1 : b1 < wr.heap.size := block_lt_of_cell r0
            have ne1 : wr.heap.size ≠ b1 := by omega
            have ne2 : wr.heap.size + 1 ≠ b1 := by omega
            have ne3 : b1 ≠ wr.heap.size := by omega
            have ne4 : b1 ≠ wr.heap.size + 1 := by omega
            go_region
            · have q1 := box_below wr (.cells #[.int .i64 x0, .int .i64 x1, .int .i64 x2, .int .i64 x3, .int .i64 x4, .int .i64 x5, .int .i64 x6] 31)
              have q2 := q1.alloc q1.size (.cells #[.int .i64 y0, .int .i64 y1, .int .i64 y2, .int .i64 y3, .int .i64 y4, .int .i64 y5, .int .i64 y6] 31)
              have BB : Hid (Below wr.heap.size wr ((wr.alloc (.cells #[.int .i64 x0, .int .i64 x1, .int .i64 x2, .int .i64 x3, .int .i64 x4, .int .i64 x5, .int .i64 x6] 31)).alloc (.cells #[.int .i64 y0, .int .i64 y1, .int .i64 y2, .int .i64 y3, .int .i64 y4, .int .i64 y5, .int .i64 y6] 31)).drew) := q2.trans ((drawn_below _ 1).mono q2.size)
              have PX : Hid (PBox ((wr.alloc (.cells #[.int .i64 x0, .int .i64 x1, .int .i64 x2, .int .i64 x3, .int .i64 x4, .int .i64 x5, .int .i64 x6] 31)).alloc (.cells #[.int .i64 y0, .int .i64 y1, .int .i64 y2, .int .i64 y3, .int .i64 y4, .int .i64 y5, .int .i64 y6] 31)).drew wr.heap.size (x0, x1, x2, x3, x4, x5, x6)) := ((PBox.new wr (x0, x1, x2, x3, x4, x5, x6)).below (box_below _ _)).below (drawn_below _ 1)
              have PY : Hid (PBox ((wr.alloc (.cells #[.int .i64 x0, .int .i64 x1, .int .i64 x2, .int .i64 x3, .int .i64 x4, .int .i64 x5, .int .i64 x6] 31)).alloc (.cells #[.int .i64 y0, .int .i64 y1, .int .i64 y2, .int .i64 y3, .int .i64 y4, .int .i64 y5, .int .i64 y6] 31)).drew (wr.heap.size + 1) (y0, y1, y2, y3, y4, y5, y6)) := by
                have := (PBox.new (wr.alloc (.cells #[.int .i64 x0, .int .i64 x1, .int .i64 x2, .int .i64 x3, .int .i64 x4, .int .i64 x5, .int .i64 x6] 31)) (y0, y1, y2, y3, y4, y5, y6)).below (drawn_below _ 1)
                rw [size_alloc] at this
                exact this
              have HGG : Hid (wr.heap.size ≤ wr.heap.size ∧ wr.heap.size ≤ wr.heap.size + 1) := ⟨by omega, by omega⟩
              clear q1 q2 r0 r1 r2 r3 r4 r5 r6 s0 s1 s2 s3 s4 s5 s6 hlt1 ne1 ne2 ne3 ne4
              generalize ((wr.alloc (.cells #[.int .i64 x0, .int .i64 x1, .int .i64 x2, .int .i64 x3, .int .i64 x4, .int .i64 x5, .int .i64 x6] 31)).alloc (.cells #[.int .i64 y0, .int .i64 y1, .int .i64 y2, .int .i64 y3, .int .i64 y4, .int .i64 y5, .int .i64 y6] 31)).drew = wx at BB PX PY ⊢
              go_wp2
              go_meet
              exact ⟨_, _, rfl, rfl, PX, PY, HGG, BB⟩
            · have q1 := box_below wr (.cells #[.int .i64 y0, .int .i64 y1, .int .i64 y2, .int .i64 y3, .int .i64 y4, .int .i64 y5, .int .i64 y6] 31)
              have q2 := q1.alloc q1.size (.cells #[.int .i64 x0, .int .i64 x1, .int .i64 x2, .int .i64 x3, .int .i64 x4, .int .i64 x5, .int .i64 x6] 31)
              have BB : Hid (Below wr.heap.size wr ((wr.alloc (.cells #[.int .i64 y0, .int .i64 y1, .int .i64 y2, .int .i64 y3, .int .i64 y4, .int .i64 y5, .int .i64 y6] 31)).alloc (.cells #[.int .i64 x0, .int .i64 x1, .int .i64 x2, .int .i64 x3, .int .i64 x4, .int .i64 x5, .int .i64 x6] 31)).drew) := q2.trans ((drawn_below _ 1).mono q2.size)
              have PY : Hid (PBox ((wr.alloc (.cells #[.int .i64 y0, .int .i64 y1, .int .i64 y2, .int .i64 y3, .int .i64 y4, .int .i64 y5, .int .i64 y6] 31)).alloc (.cells #[.int .i64 x0, .int .i64 x1, .int .i64 x2, .int .i64 x3, .int .i64 x4, .int .i64 x5, .int .i64 x6] 31)).drew wr.heap.size (y0, y1, y2, y3, y4, y5, y6)) := ((PBox.new wr (y0, y1, y2, y3, y4, y5, y6)).below (box_below _ _)).below (drawn_below _ 1)
              have PX : Hid (PBox ((wr.alloc (.cells #[.int .i64 y0, .int .i64 y1, .int .i64 y2, .int .i64 y3, .int .i64 y4, .int .i64 y5, .int .i64 y6] 31)).alloc (.cells #[.int .i64 x0, .int .i64 x1, .int .i64 x2, .int .i64 x3, .int .i64 x4, .int .i64 x5, .int .i64 x6] 31)).drew (wr.heap.size + 1) (x0, x1, x2, x3, x4, x5, x6)) := by
                have := (PBox.new (wr.alloc (.cells #[.int .i64 y0, .int .i64 y1, .int .i64 y2, .int .i64 y3, .int .i64 y4, .int .i64 y5, .int .i64 y6] 31)) (x0, x1, x2, x3, x4, x5, x6)).below (drawn_below _ 1)
                rw [size_alloc] at this
                exact this
              have HGG : Hid (wr.heap.size ≤ wr.heap.size + 1 ∧ wr.heap.size ≤ wr.heap.size) := ⟨by omega, by omega⟩
              clear q1 q2 r0 r1 r2 r3 r4 r5 r6 s0 s1 s2 s3 s4 s5 s6 hlt1 ne1 ne2 ne3 ne4
              generalize ((wr.alloc (.cells #[.int .i64 y0, .int .i64 y1, .int .i64 y2, .int .i64 y3, .int .i64 y4, .int .i64 y5, .int .i64 y6] 31)).alloc (.cells #[.int .i64 x0, .int .i64 x1, .int .i64 x2, .int .i64 x3, .int .i64 x4, .int .i64 x5, .int .i64 x6] 31)).drew = wx at BB PX PY ⊢
              go_wp2
              go_meet
              exact ⟨_, _, rfl, rfl, PX, PY, HGG, BB⟩
          case rest =>
          obtain ⟨g, g2, hs, hf, PA, PB, HGG, BC⟩ := hcut
          subst hs hf
          obtain ⟨w4, rfl⟩ : ∃ z, z = wc := ⟨wc, rfl⟩
          have B4 : Hid (Below w.heap.size w w4) := BW.out.trans (BC.out.mono BW.out.size)
          have BB4 : Hid (Below w3.heap.size w3 w4) := HBL.out.trans (BC.out.mono HBL.out.size)
          have HGW : Hid (w.heap.size + 2 < g ∧ w.heap.size + 2 < g2) := by have := HGG.out; have := Q3.out.lt; have := HBL.out.size; show _ ∧ _; omega
          clear BC CA CB HBL BW HGG
          have HIP := HIS.out (x0, x1, x2, x3, x4, x5, x6) (y0, y1, y2, y3, y4, y5, y6)
          have kw : IntKind.i64.wrap ((l : Int) + 1) = l + 1 := i64_wf (by omega) (by omega)
          obtain ⟨r0, r1, r2, r3, r4, r5, r6⟩ := PA.out.at7
          simp only [P7.id, P7.fr, P7.to, P7.am, P7.cl, P7.st, P7.ti, Nat.zero_add] at r0 r1 r2 r3 r4 r5 r6
          obtain ⟨s0, s1, s2, s3, s4, s5, s6⟩ := PB.out.at7
          simp only [P7.id, P7.fr, P7.to, P7.am, P7.cl, P7.st, P7.ti, Nat.zero_add] at s0 s1 s2 s3 s4 s5 s6
          by_cases hbk : backB (x0, x1, x2, x3, x4, x5, x6) (y0, y1, y2, y3, y4, y5, y6) = true
          · obtain ⟨e1, e2, e3⟩ := backB_yes.1 hbk
            have E1 : Hid (y1 = x2) := e1
            have E2 : Hid (y2 = x1) := e2
            have e3 : x1 < y1 := e3
            have d3 : ¬ (y1 ≤ x1) := by omega
            rw [hbk, Bool.true_and] at HIP
            obtain ⟨q, hq⟩ : ∃ q, goesB b [(x0, x1, x2, x3, x4, x5, x6), (y0, y1, y2, y3, y4, y5, y6)] = q := ⟨_, rfl⟩
            rw [hq] at HIP
            have HIQ : Hid (isPair b (x0, x1, x2, x3, x4, x5, x6) (y0, y1, y2, y3, y4, y5, y6) = q) := HIP
            have HQ : Hid (goesB b [(x0, x1, x2, x3, x4, x5, x6), (y0, y1, y2, y3, y4, y5, y6)] = q) := hq
            clear hbk HIP hq e1 e2 e3
            go_upto_region 10 with fail
            have EY : Hid ((y0, y1, y2, y3, y4, y5, y6) = (y0, x2, x1, y3, y4, y5, y6)) := by have a1 := E1.out; have a2 := E2.out; show ((y0, y1, y2, y3, y4, y5, y6) : P7) = (y0, x2, x1, y3, y4, y5, y6); simp only [a1, a2]
            have HQ2 : Hid (goesB b [(x0, x1, x2, x3, x4, x5, x6), (y0, x2, x1, y3, y4, y5, y6)] = q) := by rw [← EY.out]; exact HQ.out
            have PB2 : Hid (PBox w4 g2 (y0, x2, x1, y3, y4, y5, y6)) := by rw [← EY.out]; exact PB.out
            clear d3 r0 r1 r2 r3 r4 r5 r6 s0 s1 s2 s3 s4 s5 s6
            have GO := GOT.out (x0, x1, x2, x3, x4, x5, x6) (y0, x2, x1, y3, y4, y5, y6) (some ⟨w4.heap.size, 0, none⟩) 2 (w4.alloc (.cells #[.int .i64 x0, .int .i64 x1, .int .i64 x2, .int .i64 x3, .int .i64 x4, .int .i64 x5, .int .i64 x6, .int .i64 y0, .int .i64 x2, .int .i64 x1, .int .i64 y3, .int .i64 y4, .int .i64 y5, .int .i64 y6] 31)) (B4.out.trans ((box_below w4 _).mono B4.out.size)) (PGood.lit2 w4 (x0, x1, x2, x3, x4, x5, x6) (y0, x2, x1, y3, y4, y5, y6))
            unfold GoesEnd at GO
            rw [HQ2.out] at GO
            obtain ⟨p0, p1, p2, p3⟩ := X3.out.below BB4.out
            replace p0 : w4.cell? ⟨w.heap.size, 0, none⟩ = some (.slice aA nA cA) := p0
            replace p1 : w4.cell? ⟨w.heap.size, 1, none⟩ = some (.slice aB nB cB) := p1
            replace p2 : w4.cell? ⟨w.heap.size, 2, none⟩ = some (.slice aM nM cM) := p2
            replace p3 : w4.cell? ⟨w.heap.size, 3, none⟩ = some (.slice aP nP cP) := p3
            obtain ⟨r0, r1, r2, r3, r4, r5, r6⟩ := PA.out.at7
            simp only [P7.id, P7.fr, P7.to, P7.am, P7.cl, P7.st, P7.ti, Nat.zero_add] at r0 r1 r2 r3 r4 r5 r6
            obtain ⟨s0, s1, s2, s3, s4, s5, s6⟩ := PB2.out.at7
            simp only [P7.id, P7.fr, P7.to, P7.am, P7.cl, P7.st, P7.ti, Nat.zero_add] at s0 s1 s2 s3 s4 s5 s6
            go_wp2_with fail
            go_at_call 24
            refine GO.mono ?_
            rintro e w5 ⟨yy, rfl, -, hb⟩
            obtain ⟨gA, hA, iA, gB, hB, iB, gM, hM, iM, gP, hP, iP⟩ := yy
            obtain ⟨w6, hw6⟩ : ∃ z, z = w5.alloc (.cells #[.slice gA hA iA, .slice gB hB iB, .slice gM hM iM, .slice gP hP iP] 27) := ⟨_, rfl⟩
            have b5 : Below w4.heap.size w4 w5 := (box_below _ _).trans (hb.mono (by rw [size_alloc]; omega))
            have b6 : Below w4.heap.size w4 w6 := by rw [hw6]; exact b5.trans ((box_below _ _).mono b5.size)
            have B6 : Hid (Below w.heap.size w w6) := B4.out.trans (b6.mono B4.out.size)
            have BB6 : Hid (Below w3.heap.size w3 w6) := BB4.out.trans (b6.mono BB4.out.size)
            have A6 : Hid (PBox w6 g (x0, x1, x2, x3, x4, x5, x6)) := PA.out.below b6
            have C6 : Hid (PBox w6 g2 (y0, x2, x1, y3, y4, y5, y6)) := PB2.out.below b6
            clear GO hb b5 b6 p0 p1 p2 p3 r0 r1 r2 r3 r4 r5 r6 s0 s1 s2 s3 s4 s5 s6 PA PB PB2 B4 BB4
            go_upto_region 11 with fail
            rw [← hw6]
            clear hw6
            cases q with
            | true =>
              have hn : N = some ((x0, x1, x2, x3, x4, x5, x6), (y0, x2, x1, y3, y4, y5, y6)) := by rw [← EY.out]; exact HF.out HIQ.out
              have P6 : Hid (PBox w6 (w.heap.size + 1) p70) := P3.out.below BB6.out
              have Q6 : Hid (PBox w6 (w.heap.size + 2) p70) := Q3.out.below BB6.out
              go_upto_region 12 with fail
              have Q2 : PBox w6 (w.heap.size + 1 + 1) p70 := Q6.out
              have q2 : Below w.heap.size w ((w6.setRow (w.heap.size + 1) #[.int .i64 x0, .int .i64 x1, .int .i64 x2, .int .i64 x3, .int .i64 x4, .int .i64 x5, .int .i64 x6]).setRow (w.heap.size + 1 + 1) #[.int .i64 y0, .int .i64 x2, .int .i64 x1, .int .i64 y3, .int .i64 y4, .int .i64 y5, .int .i64 y6]) := Below.setRow (Below.setRow B6.out (by omega) _) (by omega) _
              have RR : Hid (N = some ((x0, x1, x2, x3, x4, x5, x6), (y0, x2, x1, y3, y4, y5, y6)) ∧ Below w.heap.size w ((w6.setRow (w.heap.size + 1) #[.int .i64 x0, .int .i64 x1, .int .i64 x2, .int .i64 x3, .int .i64 x4, .int .i64 x5, .int .i64 x6]).setRow (w.heap.size + 1 + 1) #[.int .i64 y0, .int .i64 x2, .int .i64 x1, .int .i64 y3, .int .i64 y4, .int .i64 y5, .int .i64 y6]).drew) := ⟨hn, q2.trans ((drawn_below _ 1).mono q2.size)⟩
              have YY := two_rows P6.out Q2 (by omega) (x0, x1, x2, x3, x4, x5, x6) (y0, x2, x1, y3, y4, y5, y6)
              have Y1 : Hid (PBox ((w6.setRow (w.heap.size + 1) #[.int .i64 x0, .int .i64 x1, .int .i64 x2, .int .i64 x3, .int .i64 x4, .int .i64 x5, .int .i64 x6]).setRow (w.heap.size + 1 + 1) #[.int .i64 y0, .int .i64 x2, .int .i64 x1, .int .i64 y3, .int .i64 y4, .int .i64 y5, .int .i64 y6]).drew (w.heap.size + 1) (x0, x1, x2, x3, x4, x5, x6)) := YY.1.below (drawn_below _ 1)
              have Y2 : Hid (PBox ((w6.setRow (w.heap.size + 1) #[.int .i64 x0, .int .i64 x1, .int .i64 x2, .int .i64 x3, .int .i64 x4, .int .i64 x5, .int .i64 x6]).setRow (w.heap.size + 1 + 1) #[.int .i64 y0, .int .i64 x2, .int .i64 x1, .int .i64 y3, .int .i64 y4, .int .i64 y5, .int .i64 y6]).drew (w.heap.size + 1 + 1) (y0, x2, x1, y3, y4, y5, y6)) := YY.2.below (drawn_below _ 1)
              have EC : ((((((((((((((w6.setCell ⟨w.heap.size + 1, 0, none⟩ (.int .i64 x0)).setCell ⟨w.heap.size + 1, 1, none⟩ (.int .i64 x1)).setCell ⟨w.heap.size + 1, 2, none⟩ (.int .i64 x2)).setCell ⟨w.heap.size + 1, 3, none⟩ (.int .i64 x3)).setCell ⟨w.heap.size + 1, 4, none⟩ (.int .i64 x4)).setCell ⟨w.heap.size + 1, 5, none⟩ (.int .i64 x5)).setCell ⟨w.heap.size + 1, 6, none⟩ (.int .i64 x6)).setCell ⟨w.heap.size + 1 + 1, 0, none⟩ (.int .i64 y0)).setCell ⟨w.heap.size + 1 + 1, 1, none⟩ (.int .i64 x2)).setCell ⟨w.heap.size + 1 + 1, 2, none⟩ (.int .i64 x1)).setCell ⟨w.heap.size + 1 + 1, 3, none⟩ (.int .i64 y3)).setCell ⟨w.heap.size + 1 + 1, 4, none⟩ (.int .i64 y4)).setCell ⟨w.heap.size + 1 + 1, 5, none⟩ (.int .i64 y5)).setCell ⟨w.heap.size + 1 + 1, 6, none⟩ (.int .i64 y6)) = ((w6.setRow (w.heap.size + 1) #[.int .i64 x0, .int .i64 x1, .int .i64 x2, .int .i64 x3, .int .i64 x4, .int .i64 x5, .int .i64 x6]).setRow (w.heap.size + 1 + 1) #[.int .i64 y0, .int .i64 x2, .int .i64 x1, .int .i64 y3, .int .i64 y4, .int .i64 y5, .int .i64 y6]) := by
                show payChain (payChain w6 (w.heap.size + 1) (x0, x1, x2, x3, x4, x5, x6)) (w.heap.size + 1 + 1) (y0, x2, x1, y3, y4, y5, y6) = _
                rw [payChain_eq P6.out (x0, x1, x2, x3, x4, x5, x6), payChain_eq (Q2.far (by omega) _) (y0, x2, x1, y3, y4, y5, y6)]
              clear hn HF HS HNO HNL HFD HRW HIQ HQ HQ2 HIS kw EY E1 E2 q2 YY
              obtain ⟨r0, r1, r2, r3, r4, r5, r6⟩ := A6.out.at7
              simp only [P7.id, P7.fr, P7.to, P7.am, P7.cl, P7.st, P7.ti, Nat.zero_add] at r0 r1 r2 r3 r4 r5 r6
              obtain ⟨s0, s1, s2, s3, s4, s5, s6⟩ := C6.out.at7
              simp only [P7.id, P7.fr, P7.to, P7.am, P7.cl, P7.st, P7.ti, Nat.zero_add] at s0 s1 s2 s3 s4 s5 s6
              have fr1 := P6.out.froz
              have fr2 : ∀ i, w6.frozen? ⟨w.heap.size + 1 + 1, i, none⟩ = false := Q2.froz
              have hg1 := HGW.out.1
              have hg2 := HGW.out.2
              obtain ⟨k0, k1, k2, k3, k4, k5, k6⟩ := P6.out.at7
              simp only [P7.id, P7.fr, P7.to, P7.am, P7.cl, P7.st, P7.ti, Nat.zero_add] at k0 k1 k2 k3 k4 k5 k6
              obtain ⟨l0, l1, l2, l3, l4, l5, l6⟩ := Q2.at7
              simp only [P7.id, P7.fr, P7.to, P7.am, P7.cl, P7.st, P7.ti, Nat.zero_add] at l0 l1 l2 l3 l4 l5 l6
              go_region
              try rw [EC]
              clear EC r0 r1 r2 r3 r4 r5 r6 s0 s1 s2 s3 s4 s5 s6 k0 k1 k2 k3 k4 k5 k6 l0 l1 l2 l3 l4 l5 l6 fr1 fr2 hg1 hg2 Q2
              generalize ((w6.setRow (w.heap.size + 1) #[.int .i64 x0, .int .i64 x1, .int .i64 x2, .int .i64 x3, .int .i64 x4, .int .i64 x5, .int .i64 x6]).setRow (w.heap.size + 1 + 1) #[.int .i64 y0, .int .i64 x2, .int .i64 x1, .int .i64 y3, .int .i64 y4, .int .i64 y5, .int .i64 y6]).drew = wf at RR Y1 Y2 ⊢
              obtain ⟨d0, d1, d2, d3, d4, d5, d6⟩ := Y1.out.at7
              simp only [P7.id, P7.fr, P7.to, P7.am, P7.cl, P7.st, P7.ti, Nat.zero_add] at d0 d1 d2 d3 d4 d5 d6
              obtain ⟨e0, e1, e2, e3, e4, e5, e6⟩ := Y2.out.at7
              simp only [P7.id, P7.fr, P7.to, P7.am, P7.cl, P7.st, P7.ti, Nat.zero_add] at e0 e1 e2 e3 e4 e5 e6
              go_wp2
              exact bodyPost_ret (v := .tuple #[.agg #[.int .i64 x0, .int .i64 x1, .int .i64 x2, .int .i64 x3, .int .i64 x4, .int .i64 x5, .int .i64 x6], .agg #[.int .i64 y0, .int .i64 x2, .int .i64 x1, .int .i64 y3, .int .i64 y4, .int .i64 y5, .int .i64 y6], .bool true]) (by simp [results, Try.results10, d0, d1, d2, d3, d4, d5, d6, e0, e1, e2, e3, e4, e5, e6, go_sem]) rfl ⟨by rw [RR.out.1]; rfl, RR.out.2⟩
            | false =>
              have HN2 : Hid (∀ j, j < l + 1 → isPair b (x0, x1, x2, x3, x4, x5, x6) (M.getD j p70) = false) := HS.out HIQ.out
              clear HF HS HNL HIQ HQ HQ2 A6 C6 HGW B6
              go_wp2
              go_roundw
              case rel => exact ⟨l + 1, by omega, by go_num, HN2, BB6⟩
              case measure => simp [intOf]; omega
          · have hbf : backB (x0, x1, x2, x3, x4, x5, x6) (y0, y1, y2, y3, y4, y5, y6) = false := by simpa using hbk
            rw [hbf, Bool.false_and] at HIP
            have HN2 : Hid (∀ j, j < l + 1 → isPair b (x0, x1, x2, x3, x4, x5, x6) (M.getD j p70) = false) := HS.out HIP
            have hno : ¬ (y1 = x2 ∧ y2 = x1 ∧ x1 < y1) := fun h => hbk (backB_yes.2 h)
            clear HIP hbk hbf HS HF HNL PA PB HGW
            by_cases h1 : y1 = x2
            · subst h1
              by_cases h2 : y2 = x1
              · subst h2
                have h3 : y1 ≤ y2 := by have := fun h => hno ⟨rfl, rfl, h⟩; omega
                clear hno
                go_wp2
                go_roundw
                case rel => exact ⟨l + 1, by omega, by go_num, HN2, BB4⟩
                case measure => simp [intOf]; omega
              · have e2 : (y2 == x1) = false := by simpa using h2
                clear hno
                go_wp2
                go_roundw
                case rel => exact ⟨l + 1, by omega, by go_num, HN2, BB4⟩
                case measure => simp [intOf]; omega
            · have e1 : (y1 == x2) = false := by simpa using h1
              clear hno
              go_wp2
              go_roundw
              case rel => exact ⟨l + 1, by omega, by go_num, HN2, BB4⟩
              case measure => simp [intOf]; omega
        · obtain rfl : l = m := by omega
          have hfn : firstQ b M (x0, x1, x2, x3, x4, x5, x6) = none := HRW.out HNL.out
          have HN2 : Hid (∀ j, j < k + 1 → firstQ b M (M.getD j p70) = none) := fun j hj => by
            by_cases hjk : j < k
            · exact HNO.out j hjk
            · obtain rfl : j = k := by omega
              rw [HY.out]
              exact hfn
          have kw : IntKind.i64.wrap ((k : Int) + 1) = k + 1 := i64_wf (by omega) (by omega)
          clear hfn HNL BW
          go_wp2
          go_roundw
          case rel => exact ⟨k + 1, by omega, by go_num, HN2, HBL⟩
          case measure => simp [intOf]; omega
    · obtain rfl : k = m := by omega
      have hn : N = none := HNONE.out HNO.out
      have BW : Hid (Below w.heap.size w wo) := B3.out.trans (HB.out.mono B3.out.size)
      have PR : Hid (PBox wo (w.heap.size + 1) p70) := P3.out.below HB.out
      have QR : Hid (PBox wo (w.heap.size + 2) p70) := Q3.out.below HB.out
      have q2 : Below w.heap.size w ((wo.setRow (w.heap.size + 1) #[.int .i64 p70.id, .int .i64 p70.fr, .int .i64 p70.to, .int .i64 p70.am, .int .i64 p70.cl, .int .i64 p70.st, .int .i64 p70.ti]).setRow (w.heap.size + 2) #[.int .i64 p70.id, .int .i64 p70.fr, .int .i64 p70.to, .int .i64 p70.am, .int .i64 p70.cl, .int .i64 p70.st, .int .i64 p70.ti]) := Below.setRow (Below.setRow BW.out (by omega) _) (by omega) _
      have RR : Hid (N = none ∧ Below w.heap.size w ((wo.setRow (w.heap.size + 1) #[.int .i64 p70.id, .int .i64 p70.fr, .int .i64 p70.to, .int .i64 p70.am, .int .i64 p70.cl, .int .i64 p70.st, .int .i64 p70.ti]).setRow (w.heap.size + 2) #[.int .i64 p70.id, .int .i64 p70.fr, .int .i64 p70.to, .int .i64 p70.am, .int .i64 p70.cl, .int .i64 p70.st, .int .i64 p70.ti])) := ⟨hn, q2⟩
      have YF : PBox (wo.setRow (w.heap.size + 1) #[.int .i64 p70.id, .int .i64 p70.fr, .int .i64 p70.to, .int .i64 p70.am, .int .i64 p70.cl, .int .i64 p70.st, .int .i64 p70.ti]) (w.heap.size + 2) p70 := QR.out.far (by omega) _
      have YY := two_rows PR.out QR.out (by omega) p70 p70
      have Y1 : Hid (PBox ((wo.setRow (w.heap.size + 1) #[.int .i64 p70.id, .int .i64 p70.fr, .int .i64 p70.to, .int .i64 p70.am, .int .i64 p70.cl, .int .i64 p70.st, .int .i64 p70.ti]).setRow (w.heap.size + 2) #[.int .i64 p70.id, .int .i64 p70.fr, .int .i64 p70.to, .int .i64 p70.am, .int .i64 p70.cl, .int .i64 p70.st, .int .i64 p70.ti]) (w.heap.size + 1) p70) := YY.1
      have Y2 : Hid (PBox ((wo.setRow (w.heap.size + 1) #[.int .i64 p70.id, .int .i64 p70.fr, .int .i64 p70.to, .int .i64 p70.am, .int .i64 p70.cl, .int .i64 p70.st, .int .i64 p70.ti]).setRow (w.heap.size + 2) #[.int .i64 p70.id, .int .i64 p70.fr, .int .i64 p70.to, .int .i64 p70.am, .int .i64 p70.cl, .int .i64 p70.st, .int .i64 p70.ti]) (w.heap.size + 1 + 1) p70) := YY.2
      clear hn HNO HB q2 YY
      go_wp2_with (first | refine store_pay rfl _ _ rfl (w.heap.size + 1) p70 rfl rfl p70 PR.out ?_ | refine store_pay rfl _ _ rfl (w.heap.size + 2) p70 rfl rfl p70 YF ?_)
      clear YF
      generalize ((wo.setRow (w.heap.size + 1) #[.int .i64 p70.id, .int .i64 p70.fr, .int .i64 p70.to, .int .i64 p70.am, .int .i64 p70.cl, .int .i64 p70.st, .int .i64 p70.ti]).setRow (w.heap.size + 2) #[.int .i64 p70.id, .int .i64 p70.fr, .int .i64 p70.to, .int .i64 p70.am, .int .i64 p70.cl, .int .i64 p70.st, .int .i64 p70.ti]) = wf at RR Y1 Y2 ⊢
      obtain ⟨d0, d1, d2, d3, d4, d5, d6⟩ := Y1.out.at7
      simp only [P7.id, P7.fr, P7.to, P7.am, P7.cl, P7.st, P7.ti, Nat.zero_add] at d0 d1 d2 d3 d4 d5 d6
      obtain ⟨e0, e1, e2, e3, e4, e5, e6⟩ := Y2.out.at7
      simp only [P7.id, P7.fr, P7.to, P7.am, P7.cl, P7.st, P7.ti, Nat.zero_add] at e0 e1 e2 e3 e4 e5 e6
      simp only [p70, P7.id, P7.fr, P7.to, P7.am, P7.cl, P7.st, P7.ti] at d0 d1 d2 d3 d4 d5 d6 e0 e1 e2 e3 e4 e5 e6
      try go_wp2
      exact bodyPost_ret (v := .tuple #[.agg #[.int .i64 0, .int .i64 0, .int .i64 0, .int .i64 0, .int .i64 0, .int .i64 0, .int .i64 0], .agg #[.int .i64 0, .int .i64 0, .int .i64 0, .int .i64 0, .int .i64 0, .int .i64 0, .int .i64 0], .bool false]) (by simp [results, Try.results10, d0, d1, d2, d3, d4, d5, d6, e0, e1, e2, e3, e4, e5, e6, go_sem]) rfl ⟨by rw [RR.out.1]; rfl, RR.out.2⟩

end Go.Proofs.Ytajmbcbochjfmaa
