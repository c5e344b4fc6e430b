/-
  free: goes, Next.
-/
import Derived.Test.YtgcofidkgohogaaFreeRef
import Derived.Test.YtgcofidkgohogaaViewAll
import Derived.Test.YtgcofidkgohogaaFitsAll
namespace Go.Proofs.Ytgcofidkgohogaa
open Go.RowKit
set_option linter.unusedVariables false
set_option linter.unusedSimpArgs false

/-- Of no payments all stays. -/
theorem postB_nil {b : Bks} (g : Good b) : postB b [] = b := by
  have eA : (List.range b.A.length).map (postA b [] b.A.length) = b.A := by
    refine List.ext_getElem (by simp) fun i h1 h2 => ?_
    have := postA_nil b b.A.length (fun i hi => (g.reserve i hi).1) i h2
    rw [List.getD_eq_getElem?_getD, List.getElem?_eq_getElem h2] at this
    simpa using this.symm
  have eP : (List.range b.A.length).map (postP b [] b.A.length) = b.P := by
    have hp := g.pos
    refine List.ext_getElem (by simp [hp]) fun i h1 h2 => ?_
    have hl := g.poss i (by omega)
    rw [List.getD_eq_getElem?_getD, List.getElem?_eq_getElem h2] at hl
    simp only [Option.getD_some] at hl
    refine List.ext_getElem (by simp [postP, hl]) fun k k1 k2 => ?_
    have e := postP_nil b i k
    have e2 : at2 b.P i k = b.P[i][k] := by
      unfold at2
      rw [List.getD_eq_getElem?_getD, List.getD_eq_getElem?_getD, List.getElem?_eq_getElem h2]
      simp [k2]
    simp only [List.getElem_map, List.getElem_range, postP]
    rw [← e, e2]
  show Bks.mk _ _ _ _ = _
  rw [eA, eP]
theorem postR_nil {b : Bks} (g : Good b) : postR b [] = b := by
  unfold postR
  split
  · exact postB_nil g
  · rfl
theorem FrOk.drop {l : List P7} (h : FrOk l) (x : Int) : FrOk (qDrop l x) := by
  unfold qDrop
  split
  · exact fun p hp => h p (qRest_mem hp)
  · exact h

set_option maxHeartbeats 8000000 in
set_option maxRecDepth 100000 in
theorem goes_any (x : BA) (b : Bks) (p : P7) (w : World) (hk : Bk w x b) (gd : Good b) :
    Calls Try.prog 27 #[x.val, p.val] w fun e w' => e = .returned (.bool (goesB b [p])) ∧ Below w.heap.size w w' := by
  have FI : Hid (∀ (a : Option Addr) (c : Nat) u, Below w.heap.size w u → PGood u a 1 c [p] → Calls Try.prog 52 #[x.val, .slice a 1 c] u fun e w' => e = .returned (.bool (fitsB b [p])) ∧ Below u.heap.size u w') := fun a c u hu hg => fitsFits_any x b a 1 c [p] u (hk.below hu) gd hg
  have PO : Hid (∀ (a : Option Addr) (c : Nat) u, Below w.heap.size w u → PGood u a 1 c [p] → Calls Try.prog 29 #[x.val, .slice a 1 c] u (PostEnd u b [p])) := fun a c u hu hg => post_any x b a 1 c [p] u (hk.below hu) gd hg
  have HG : Hid (goesB b [p] = (fitsB b [p] && decide (postE b [p] = 0))) := rfl
  unfold PostEnd at PO
  generalize goesB b [p] = R at HG ⊢
  generalize fitsB b [p] = F at HG FI
  generalize postE b [p] = E at HG PO
  generalize postR b [p] = Q at PO
  obtain ⟨x0, x1, x2, x3, x4, x5, x6⟩ := p
  obtain ⟨aA, nA, cA, aB, nB, cB, aM, nM, cM, aP, nP, cP⟩ := x
  obtain ⟨w2, hw2⟩ : ∃ w2, w2 = (w.alloc (.cells #[.slice aA nA cA, .slice aB nB cB, .slice aM nM cM, .slice aP nP cP] 27)).alloc (.cells #[.int .i64 x0, .int .i64 x1, .int .i64 x2, .int .i64 x3, .int .i64 x4, .int .i64 x5, .int .i64 x6] 31) := ⟨_, rfl⟩
  have B2 : Hid (Below w.heap.size w w2) := by rw [hw2]; exact (box_below _ _).alloc (box_below _ _).size _
  have X2 : Hid (Box4 w2 w.heap.size ⟨aA, nA, cA, aB, nB, cB, aM, nM, cM, aP, nP, cP⟩) := by rw [hw2]; exact (Box4.new w ⟨aA, nA, cA, aB, nB, cB, aM, nM, cM, aP, nP, cP⟩ _ _).below (box_below _ _)
  have P2 : Hid (PBox w2 (w.heap.size + 1) (x0, x1, x2, x3, x4, x5, x6)) := by
    rw [hw2]
    have := PBox.new (w.alloc (.cells #[.slice aA nA cA, .slice aB nB cB, .slice aM nM cM, .slice aP nP cP] 27)) (x0, x1, x2, x3, x4, x5, x6)
    rw [size_alloc] at this
    exact this
  clear hk gd
  show Calls Try.prog 27 #[.agg #[.slice aA nA cA, .slice aB nB cB, .slice aM nM cM, .slice aP nP cP], .agg #[.int .i64 x0, .int .i64 x1, .int .i64 x2, .int .i64 x3, .int .i64 x4, .int .i64 x5, .int .i64 x6]] w _
  go_enter Try.func27, Try.ntmps27
  go_upto_region 1 with fail
  rw [← hw2]
  clear hw2
  have CC := FI.out (some ⟨w2.heap.size, 0, none⟩) 1 _ (B2.out.trans ((box_below w2 _).mono B2.out.size)) (PGood.lit1 w2 (x0, x1, x2, x3, x4, x5, x6))
  obtain ⟨p0, p1, p2, p3⟩ := X2.out
  replace p0 : w2.cell? ⟨w.heap.size, 0, none⟩ = some (.slice aA nA cA) := p0
  replace p1 : w2.cell? ⟨w.heap.size, 1, none⟩ = some (.slice aB nB cB) := p1
  replace p2 : w2.cell? ⟨w.heap.size, 2, none⟩ = some (.slice aM nM cM) := p2
  replace p3 : w2.cell? ⟨w.heap.size, 3, none⟩ = some (.slice aP nP cP) := p3
  obtain ⟨r0, r1, r2, r3, r4, r5, r6⟩ := P2.out.at7
  simp only [P7.id, P7.fr, P7.to, P7.am, P7.cl, P7.st, P7.ti, Nat.zero_add] at r0 r1 r2 r3 r4 r5 r6
  clear FI
  go_wp2_with fail
  go_at_call 52
  refine CC.mono ?_
  rintro e w3 ⟨rfl, hb⟩
  have b23 : Below w2.heap.size w2 w3 := (box_below _ _).trans (hb.mono (by rw [size_alloc]; omega))
  have B3 : Hid (Below w.heap.size w w3) := B2.out.trans (b23.mono B2.out.size)
  have X3 : Hid (Box4 w3 w.heap.size ⟨aA, nA, cA, aB, nB, cB, aM, nM, cM, aP, nP, cP⟩) := X2.out.below b23
  have P3 : Hid (PBox w3 (w.heap.size + 1) (x0, x1, x2, x3, x4, x5, x6)) := P2.out.below b23
  clear CC hb b23 p0 p1 p2 p3 r0 r1 r2 r3 r4 r5 r6 X2 P2 B2
  cases F with
  | false =>
    have RR : Hid (R = false) := by show R = false; rw [HG.out]; rfl
    go_wp2
    go_ret
    exact ⟨by rw [RR.out]; rfl, B3.out⟩
  | true =>
    have RR : Hid (R = decide (E = 0)) := by show R = _; rw [HG.out]; rfl
    have CC := PO.out (some ⟨w3.heap.size, 0, none⟩) 1 _ (B3.out.trans ((box_below w3 _).mono B3.out.size)) (PGood.lit1 w3 (x0, x1, x2, x3, x4, x5, x6))
    obtain ⟨p0, p1, p2, p3⟩ := X3.out
    replace p0 : w3.cell? ⟨w.heap.size, 0, none⟩ = some (.slice aA nA cA) := p0
    replace p1 : w3.cell? ⟨w.heap.size, 1, none⟩ = some (.slice aB nB cB) := p1
    replace p2 : w3.cell? ⟨w.heap.size, 2, none⟩ = some (.slice aM nM cM) := p2
    replace p3 : w3.cell? ⟨w.heap.size, 3, none⟩ = some (.slice aP nP cP) := p3
    obtain ⟨r0, r1, r2, r3, r4, r5, r6⟩ := P3.out.at7
    simp only [P7.id, P7.fr, P7.to, P7.am, P7.cl, P7.st, P7.ti, Nat.zero_add] at r0 r1 r2 r3 r4 r5 r6
    clear PO HG
    go_wp2_with fail
    go_at_call 29
    refine CC.mono ?_
    rintro e w4 ⟨y, rfl, -, hb⟩
    obtain ⟨yA, mA, eA, yB, mB, eB, yM, mM, eM, yP, mP, eP⟩ := y
    have B4 : Hid (Below w.heap.size w w4) := B3.out.trans (((box_below _ _).trans (hb.mono (by rw [size_alloc]; omega))).mono B3.out.size)
    have B5 : Hid (∀ x, Below w.heap.size w (w4.alloc x)) := fun x => B4.out.alloc B4.out.size _
    clear CC hb p0 p1 p2 p3 r0 r1 r2 r3 r4 r5 r6 X3 P3 B3
    obtain ⟨D, hD⟩ : ∃ D, (E == 0) = D := ⟨_, rfl⟩
    have RD : Hid (R = D) := by show R = D; rw [RR.out, ← hD]; rfl
    clear RR
    go_wp2
    go_ret
    exact ⟨by rw [RD.out]; rfl, B5.out _⟩

set_option maxHeartbeats 16000000 in
set_option maxRecDepth 100000 in
theorem next_any (x : BA) (b : Bks) (a : Option Addr) (n c : Nat) (L : List P7) (t : Int) (w : World) (hk : Bk w x b) (gd : Good b) (h : PGood w a n c L) (hm : n ≤ 100000) (hf : FrOk L) :
    Calls Try.prog 9 #[x.val, .slice a n c, .int .i64 t] w fun e w' => e = .returned (.tuple #[((nextP b L t).getD p70).val, .bool (nextP b L t).isSome]) ∧ Below w.heap.size w w' := by
  have MY := fun u (hu : Below w.heap.size w u) => viewMay_any a n c L t u (h.below hu) hm hf
  have GO := fun (p : P7) u (hu : Below w.heap.size w u) => goes_any x b p u (hk.below hu) gd
  have HFIND : Hid (∀ k, k < (vMay L t).length → (∀ j, j < k → goesB b [(vMay L t).getD j p70] = false) → goesB b [(vMay L t).getD k p70] = true → nextP b L t = some ((vMay L t).getD k p70)) := fun k h1 h2 h3 => find_here (f := fun p => goesB b [p]) h1 h2 h3
  have HNONE : Hid ((∀ j, j < (vMay L t).length → goesB b [(vMay L t).getD j p70] = false) → nextP b L t = none) := fun h => find_nothing (f := fun p => goesB b [p]) (d := p70) h
  have hmx : (vMay L t).length ≤ 9223372036854775000 := by have h1 := Nat.le_trans (sel_len (mayK (vReady L t)) (vReady L t)) (sel_len (readyK t) L); have h2 := h.len; have h3 : (vMay L t).length ≤ L.length := h1; omega
  unfold PEnd at MY
  generalize vMay L t = M at MY HFIND HNONE hmx
  obtain ⟨m, hml⟩ : ∃ m, M.length = m := ⟨_, rfl⟩
  rw [hml] at HFIND HNONE MY hmx
  have HLM : Hid (m = M.length) := hml.symm
  generalize nextP b L t = N at HFIND HNONE ⊢
  clear hml
  obtain ⟨aA, nA, cA, aB, nB, cB, aM, nM, cM, aP, nP, cP⟩ := x
  obtain ⟨w2, hw2⟩ : ∃ w2, w2 = (w.alloc (.cells #[.slice aA nA cA, .slice aB nB cB, .slice aM nM cM, .slice aP nP cP] 27)).alloc (.cells #[.int .i64 0, .int .i64 0, .int .i64 0, .int .i64 0, .int .i64 0, .int .i64 0, .int .i64 0] 31) := ⟨_, rfl⟩
  have B2 : Hid (Below w.heap.size w w2) := by rw [hw2]; exact (box_below _ _).alloc (box_below _ _).size _
  have X2 : Hid (Box4 w2 w.heap.size ⟨aA, nA, cA, aB, nB, cB, aM, nM, cM, aP, nP, cP⟩) := by rw [hw2]; exact (Box4.new w ⟨aA, nA, cA, aB, nB, cB, aM, nM, cM, aP, nP, cP⟩ _ _).below (box_below _ _)
  have P2 : Hid (PBox w2 (w.heap.size + 1) p70) := by
    rw [hw2]
    have := PBox.new (w.alloc (.cells #[.slice aA nA cA, .slice aB nB cB, .slice aM nM cM, .slice aP nP cP] 27)) p70
    rw [size_alloc] at this
    exact this
  have MY := MY w2 B2.out
  have GOT : Hid (∀ (z0 z1 z2 z3 z4 z5 z6 : Int) u, Below w.heap.size w u → Calls Try.prog 27 #[.agg #[.slice aA nA cA, .slice aB nB cB, .slice aM nM cM, .slice aP nP cP], .agg #[.int .i64 z0, .int .i64 z1, .int .i64 z2, .int .i64 z3, .int .i64 z4, .int .i64 z5, .int .i64 z6]] u fun e w' => e = .returned (.bool (goesB b [(z0, z1, z2, z3, z4, z5, z6)])) ∧ Below u.heap.size u w') := fun z0 z1 z2 z3 z4 z5 z6 => GO (z0, z1, z2, z3, z4, z5, z6)
  have HMX : Hid (m ≤ 9223372036854775000) := hmx
  clear hk gd h hm hf GO hmx
  go_enter Try.func9, Try.ntmps9
  go_upto_region 1 with fail
  rw [← hw2]
  clear hw2
  go_wp2_with fail
  go_at_call 26
  refine MY.mono ?_
  rintro e w3 ⟨a1, c1, rfl, hg, _, hb⟩
  have B3 : Hid (Below w.heap.size w w3) := B2.out.trans (hb.mono B2.out.size)
  have X3 : Hid (Box4 w3 w.heap.size ⟨aA, nA, cA, aB, nB, cB, aM, nM, cM, aP, nP, cP⟩) := X2.out.below hb
  have P3 : Hid (PBox w3 (w.heap.size + 1) p70) := P2.out.below hb
  have G3 : Hid (PGood w3 a1 m c1 M) := hg
  clear hb hg MY X2 P2 B2
  go_wp2
  go_loopw [14] (fun i wr => ∃ k : Nat, k ≤ m ∧ i = .int .i64 k ∧ Hid (∀ j, j < k → goesB b [M.getD j p70] = false) ∧ Hid (Below w3.heap.size w3 wr)) (fun i _ => m - (intOf i).toNat)
  case atStart => exact ⟨0, by omega, rfl, fun j hj => by omega, Below.refl _ _⟩
  case round =>
    obtain ⟨k, hk, rfl, HNO, HB⟩ := hrel
    have BW : Hid (Below w.heap.size w wr) := B3.out.trans (HB.out.mono B3.out.size)
    have m63 := HMX.out
    by_cases hlt : k < m
    · have k1 : (k : Int) < (m : Int) := by omega
      obtain ⟨b1, off, rfl, HC⟩ := G3.out.at hlt
      have C0 : Hid (At7 wr b1 (off + k * 7) (M.getD k p70)) := (HC k hlt).below HB.out
      have HF := HFIND.out k hlt HNO.out
      have HS : Hid (goesB b [M.getD k p70] = false → ∀ j, j < k + 1 → goesB b [M.getD j p70] = false) := fun h j hj => by
        by_cases hjk : j < k
        · exact HNO.out j hjk
        · obtain rfl : j = k := by omega
          exact h
      generalize M.getD k p70 = y at C0 HF HS
      obtain ⟨x0, x1, x2, x3, x4, x5, x6⟩ := y
      obtain ⟨w4, hw4⟩ : ∃ w4, w4 = wr.alloc (.cells #[.int .i64 x0, .int .i64 x1, .int .i64 x2, .int .i64 x3, .int .i64 x4, .int .i64 x5, .int .i64 x6] 31) := ⟨_, rfl⟩
      obtain ⟨g, hg⟩ : ∃ g, wr.heap.size = g := ⟨_, rfl⟩
      have b4 : Below wr.heap.size wr w4 := by rw [hw4]; exact box_below _ _
      have P4 : Hid (PBox w4 g (x0, x1, x2, x3, x4, x5, x6)) := by rw [hw4, ← hg]; exact PBox.new wr (x0, x1, x2, x3, x4, x5, x6)
      have B4 : Hid (Below w.heap.size w w4) := BW.out.trans (b4.mono BW.out.size)
      have BB4 : Hid (Below w3.heap.size w3 w4) := HB.out.trans (b4.mono HB.out.size)
      have X4 : Hid (Box4 w4 w.heap.size ⟨aA, nA, cA, aB, nB, cB, aM, nM, cM, aP, nP, cP⟩) := (X3.out.below HB.out).below b4
      obtain ⟨z0, z1, z2, z3, z4, z5, z6⟩ := C0.out
      simp only [P7.id, P7.fr, P7.to, P7.am, P7.cl, P7.st, P7.ti] at z0 z1 z2 z3 z4 z5 z6
      clear b4 BW HB C0
      go_upto_region 4 with fail
      rw [← hw4]
      clear hw4 z0 z1 z2 z3 z4 z5 z6
      try rw [hg]
      clear hg
      have CC := GOT.out x0 x1 x2 x3 x4 x5 x6 w4 B4.out
      obtain ⟨q, hq⟩ : ∃ q, goesB b [(x0, x1, x2, x3, x4, x5, x6)] = q := ⟨_, rfl⟩
      rw [hq] at HF HS CC
      have HFF : Hid (q = true → N = some (x0, x1, x2, x3, x4, x5, x6)) := HF
      clear hq HF
      obtain ⟨p0, p1, p2, p3⟩ := X4.out
      replace p0 : w4.cell? ⟨w.heap.size, 0, none⟩ = some (.slice aA nA cA) := p0
      replace p1 : w4.cell? ⟨w.heap.size, 1, none⟩ = some (.slice aB nB cB) := p1
      replace p2 : w4.cell? ⟨w.heap.size, 2, none⟩ = some (.slice aM nM cM) := p2
      replace p3 : w4.cell? ⟨w.heap.size, 3, none⟩ = some (.slice aP nP cP) := p3
      obtain ⟨r0, r1, r2, r3, r4, r5, r6⟩ := P4.out.at7
      simp only [P7.id, P7.fr, P7.to, P7.am, P7.cl, P7.st, P7.ti, Nat.zero_add] at r0 r1 r2 r3 r4 r5 r6
      go_wp2_with fail
      go_at_call 27
      refine CC.mono ?_
      rintro e w6 ⟨rfl, hb⟩
      have B6 : Hid (Below w.heap.size w w6) := B4.out.trans (hb.mono B4.out.size)
      have BB6 : Hid (Below w3.heap.size w3 w6) := BB4.out.trans (hb.mono BB4.out.size)
      have P6 : Hid (PBox w6 (w.heap.size + 1) p70) := P3.out.below BB6.out
      have C6 : Hid (PBox w6 g (x0, x1, x2, x3, x4, x5, x6)) := P4.out.below hb
      clear CC hb p0 p1 p2 p3 r0 r1 r2 r3 r4 r5 r6 X4 P4 B4 BB4
      cases q with
      | true =>
        have hn : N = some (x0, x1, x2, x3, x4, x5, x6) := HFF.out rfl
        have RR : Hid (N = some (x0, x1, x2, x3, x4, x5, x6) ∧ Below w.heap.size w (w6.setRow (w.heap.size + 1) #[.int .i64 x0, .int .i64 x1, .int .i64 x2, .int .i64 x3, .int .i64 x4, .int .i64 x5, .int .i64 x6])) := ⟨hn, Below.setRow B6.out (by omega) _⟩
        have Y : Hid (PBox (w6.setRow (w.heap.size + 1) #[.int .i64 x0, .int .i64 x1, .int .i64 x2, .int .i64 x3, .int .i64 x4, .int .i64 x5, .int .i64 x6]) (w.heap.size + 1) (x0, x1, x2, x3, x4, x5, x6)) := P6.out.set (x0, x1, x2, x3, x4, x5, x6)
        obtain ⟨r0, r1, r2, r3, r4, r5, r6⟩ := C6.out.at7
        simp only [P7.id, P7.fr, P7.to, P7.am, P7.cl, P7.st, P7.ti, Nat.zero_add] at r0 r1 r2 r3 r4 r5 r6
        clear hn HFF HS HNO
        go_wp2_with (refine store_pay rfl _ _ rfl (w.heap.size + 1) (x0, x1, x2, x3, x4, x5, x6) rfl rfl p70 P6.out ?_)
        simp only [P7.id, P7.fr, P7.to, P7.am, P7.cl, P7.st, P7.ti]
        clear r0 r1 r2 r3 r4 r5 r6 P6
        generalize w6.setRow (w.heap.size + 1) #[.int .i64 x0, .int .i64 x1, .int .i64 x2, .int .i64 x3, .int .i64 x4, .int .i64 x5, .int .i64 x6] = wf at RR Y ⊢
        obtain ⟨d0, d1, d2, d3, d4, d5, d6⟩ := Y.out.at7
        go_wp2
        exact bodyPost_ret (v := .tuple #[.agg #[.int .i64 x0, .int .i64 x1, .int .i64 x2, .int .i64 x3, .int .i64 x4, .int .i64 x5, .int .i64 x6], .bool true]) (by simp [results, Try.results9, d0, d1, d2, d3, d4, d5, d6, go_sem]) rfl ⟨by rw [RR.out.1]; rfl, RR.out.2⟩
      | false =>
        have HN2 : Hid (∀ j, j < k + 1 → goesB b [M.getD j p70] = false) := HS.out rfl
        have kw : IntKind.i64.wrap ((k : Int) + 1) = k + 1 := i64_wf (by omega) (by omega)
        clear HS HFF HNO C6 P6 B6
        go_wp2
        go_roundw
        case rel => exact ⟨k + 1, by omega, by go_num, HN2, BB6⟩
        case measure => simp [intOf]; omega
    · obtain rfl : k = m := by omega
      have hn : N = none := HNONE.out HNO.out
      have PR : Hid (PBox wr (w.heap.size + 1) p70) := P3.out.below HB.out
      have RR : Hid (N = none ∧ Below w.heap.size w (wr.setRow (w.heap.size + 1) #[.int .i64 0, .int .i64 0, .int .i64 0, .int .i64 0, .int .i64 0, .int .i64 0, .int .i64 0])) := ⟨hn, Below.setRow BW.out (by omega) _⟩
      have Y : Hid (PBox (wr.setRow (w.heap.size + 1) #[.int .i64 0, .int .i64 0, .int .i64 0, .int .i64 0, .int .i64 0, .int .i64 0, .int .i64 0]) (w.heap.size + 1) p70) := PR.out.set p70
      clear hn HNO BW HB
      go_wp2_with (refine store_pay rfl _ _ rfl (w.heap.size + 1) p70 rfl rfl p70 PR.out ?_)
      clear PR
      show _
      generalize hwf : wr.setRow (w.heap.size + 1) #[.int .i64 0, .int .i64 0, .int .i64 0, .int .i64 0, .int .i64 0, .int .i64 0, .int .i64 0] = wf at RR Y
      have e70 : wr.setRow (w.heap.size + 1) #[.int .i64 p70.id, .int .i64 p70.fr, .int .i64 p70.to, .int .i64 p70.am, .int .i64 p70.cl, .int .i64 p70.st, .int .i64 p70.ti] = wf := hwf
      rw [e70]
      clear hwf e70
      obtain ⟨d0, d1, d2, d3, d4, d5, d6⟩ := Y.out.at7
      simp only [p70, P7.id, P7.fr, P7.to, P7.am, P7.cl, P7.st, P7.ti] at d0 d1 d2 d3 d4 d5 d6
      go_wp2
      exact bodyPost_ret (v := .tuple #[.agg #[.int .i64 0, .int .i64 0, .int .i64 0, .int .i64 0, .int .i64 0, .int .i64 0, .int .i64 0], .bool false]) (by simp [results, Try.results9, d0, d1, d2, d3, d4, d5, d6, go_sem]) rfl ⟨by rw [RR.out.1]; rfl, RR.out.2⟩

end Go.Proofs.Ytgcofidkgohogaa
