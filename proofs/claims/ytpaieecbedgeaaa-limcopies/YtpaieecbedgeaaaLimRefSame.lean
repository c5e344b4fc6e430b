/-
  giroref10.Same: are two books one.
-/
import Derived.Test.YtpaieecbedgeaaaLimBooks
namespace Go.Proofs.Ytpaieecbedgeaaa
open Go.RowKit
set_option linter.unusedVariables false
set_option linter.unusedSimpArgs false

theorem sameB_len {a b : Bks} (h : a.A.length ≠ b.A.length) : false = sameB a b := by
  have : ¬ a.A = b.A := fun e => h (by rw [e])
  simp [sameB, this]

set_option maxHeartbeats 4000000 in
theorem refSame_any (x y : BA) (a b : Bks) (w : World) (hx : Bk w x a) (hy : Bk w y b) : Calls Try.prog 13 #[x.val, y.val] w fun e w' => e = .returned (.bool (sameB a b)) ∧ Below w.heap.size w w' := by
  obtain ⟨aA, nA, cA, aB, nB, cB, aM, nM, cM, aP, nP, cP⟩ := x
  obtain ⟨dA, mA, eA, dB, mB, eB, dM, mM, eM, dP, mP, eP⟩ := y
  obtain ⟨w2, hw2⟩ : ∃ w2, w2 = (w.alloc (.cells #[.slice aA nA cA, .slice aB nB cB, .slice aM nM cM, .slice aP nP cP] 26)).alloc (.cells #[.slice dA mA eA, .slice dB mB eB, .slice dM mM eM, .slice dP mP eP] 26) := ⟨_, rfl⟩
  have B2 : Hid (Below w.heap.size w w2) := by rw [hw2]; exact (box_below _ _).alloc (box_below _ _).size _
  have X2 : Hid (Box4 w2 w.heap.size ⟨aA, nA, cA, aB, nB, cB, aM, nM, cM, aP, nP, cP⟩) := by rw [hw2]; exact (Box4.new w ⟨aA, nA, cA, aB, nB, cB, aM, nM, cM, aP, nP, cP⟩ _ _).below (box_below _ _)
  have Y2 : Hid (Box4 w2 (w.heap.size + 1) ⟨dA, mA, eA, dB, mB, eB, dM, mM, eM, dP, mP, eP⟩) := by
    have := Box4.new (w.alloc (.cells #[.slice aA nA cA, .slice aB nB cB, .slice aM nM cM, .slice aP nP cP] 26)) ⟨dA, mA, eA, dB, mB, eB, dM, mM, eM, dP, mP, eP⟩ 26 (0, 0)
    rw [size_alloc] at this
    rw [hw2]
    exact this
  have HX : Hid (Bk w2 ⟨aA, nA, cA, aB, nB, cB, aM, nM, cM, aP, nP, cP⟩ a) := hx.below B2.out
  have HY : Hid (Bk w2 ⟨dA, mA, eA, dB, mB, eB, dM, mM, eM, dP, mP, eP⟩ b) := hy.below B2.out
  clear hx hy
  by_cases hl : nA = mA
  · subst hl
    have HL : Hid (a.A.length = b.A.length) := by have h1 := HX.out.acc.1; have h2 := HY.out.acc.1; show _ = _; rw [← h1, ← h2]
    have E1 := refRows_any aB dB nB mB cB eB a.B b.B w2 HX.out.bil HY.out.bil HX.out.sB HX.out.hB
    have hs : sameB a b = (decide (a.B = b.B) && (decide (a.P = b.P) && (decide (a.M = b.M) && decide (a.A = b.A)))) := by
      unfold sameB
      generalize decide (a.A = b.A) = t1
      generalize decide (a.B = b.B) = t2
      generalize decide (a.M = b.M) = t3
      generalize decide (a.P = b.P) = t4
      cases t1 <;> cases t2 <;> cases t3 <;> cases t4 <;> rfl
    rw [hs]
    clear hs
    generalize decide (a.B = b.B) = q2 at E1 ⊢
    obtain ⟨q3, hq3⟩ : ∃ q, decide (a.M = b.M) = q := ⟨_, rfl⟩
    obtain ⟨q4, hq4⟩ : ∃ q, decide (a.P = b.P) = q := ⟨_, rfl⟩
    rw [hq3, hq4]
    have HQ3 : Hid (decide (a.M = b.M) = q3) := hq3
    have HQ4 : Hid (decide (a.P = b.P) = q4) := hq4
    obtain ⟨xs, hxs⟩ : ∃ xs, a.A = xs := ⟨_, rfl⟩
    obtain ⟨ys, hys⟩ : ∃ ys, b.A = ys := ⟨_, rfl⟩
    rw [hxs, hys]
    have HXS : Hid (a.A = xs) := hxs
    have HYS : Hid (b.A = ys) := hys
    clear hq3 hq4 hxs hys
    rw [hw2] at E1
    go_enter Try.func13, Try.ntmps13
    go_wp2_with fail
    go_at_call 16
    refine E1.mono ?_
    rintro e w3 ⟨rfl, n3, hw3⟩
    have B3 : Hid (Below w2.heap.size w2 w3) := by rw [hw3, ← hw2]; exact below_drewN _ _
    clear hw3 hw2 E1
    cases q2
    · go_wp2
      go_ret
      exact ⟨rt_bool (by simp), B2.out.trans (B3.out.mono B2.out.size)⟩
    have X3 : Hid (Box4 w3 w.heap.size ⟨aA, nA, cA, aB, nB, cB, aM, nM, cM, aP, nP, cP⟩) := X2.out.below B3.out
    have Y3 : Hid (Box4 w3 (w.heap.size + 1) ⟨dA, nA, eA, dB, mB, eB, dM, mM, eM, dP, mP, eP⟩) := Y2.out.below B3.out
    obtain ⟨x0, x1, x2, x3⟩ := X3.out
    obtain ⟨y0, y1, y2, y3⟩ := Y3.out
    have E2 := refRows_any aP dP nP mP cP eP a.P b.P w3 (HX.out.pos.below B3.out) (HY.out.pos.below B3.out) HX.out.sP HX.out.hP
    rw [HQ4.out] at E2
    clear X2 Y2 HQ4
    go_wp2_with fail
    go_at_call 16
    refine E2.mono ?_
    rintro e w4 ⟨rfl, n4, hw4⟩
    have B34 : Hid (Below w3.heap.size w3 w4) := by rw [hw4]; exact below_drewN _ _
    have B4 : Hid (Below w2.heap.size w2 w4) := B3.out.trans (B34.out.mono B3.out.size)
    clear hw4 E2
    cases q4
    · go_wp2
      go_ret
      exact ⟨rt_bool (by simp), B2.out.trans (B4.out.mono B2.out.size)⟩
    clear x0 x1 x2 x3 y0 y1 y2 y3
    have X4 : Hid (Box4 w4 w.heap.size ⟨aA, nA, cA, aB, nB, cB, aM, nM, cM, aP, nP, cP⟩) := X3.out.below B34.out
    have Y4 : Hid (Box4 w4 (w.heap.size + 1) ⟨dA, nA, eA, dB, mB, eB, dM, mM, eM, dP, mP, eP⟩) := Y3.out.below B34.out
    obtain ⟨x0, x1, x2, x3⟩ := X4.out
    obtain ⟨y0, y1, y2, y3⟩ := Y4.out
    have E3 := same_any aM dM nM mM cM eM a.M b.M w4 (HX.out.mul.below B4.out) (HY.out.mul.below B4.out) HX.out.sM
    rw [HQ3.out] at E3
    clear X3 Y3 B34 B3 HQ3
    go_wp2_with fail
    go_at_call 29
    refine E3.mono ?_
    rintro e w5 ⟨rfl, n5, hw5⟩
    have B45 : Hid (Below w4.heap.size w4 w5) := by rw [hw5]; exact below_drewN _ _
    have B5 : Hid (Below w2.heap.size w2 w5) := B4.out.trans (B45.out.mono B4.out.size)
    clear hw5 E3
    cases q3
    · go_wp2
      go_ret
      exact ⟨rt_bool (by simp), B2.out.trans (B5.out.mono B2.out.size)⟩
    clear x0 x1 x2 x3 y0 y1 y2 y3
    have X5 : Hid (Box4 w5 w.heap.size ⟨aA, nA, cA, aB, nB, cB, aM, nM, cM, aP, nP, cP⟩) := X4.out.below B45.out
    have Y5 : Hid (Box4 w5 (w.heap.size + 1) ⟨dA, nA, eA, dB, mB, eB, dM, mM, eM, dP, mP, eP⟩) := Y4.out.below B45.out
    have C5 : Hid (Accs w5 aA nA xs ∧ Accs w5 dA nA ys) := by rw [← HXS.out, ← HYS.out]; exact ⟨HX.out.acc.below B5.out, HY.out.acc.below B5.out⟩
    have hn : nA ≤ 9223372036854775807 := HX.out.sA
    have BW : Hid (Below w.heap.size w w5) := B2.out.trans (B5.out.mono B2.out.size)
    have HLL : Hid (xs.length = ys.length) := by rw [← HXS.out, ← HYS.out]; exact HL.out
    clear X4 Y4 B45 B4 HX HY B5 B2 HXS HYS HL
    go_wp2
    go_loopw [5] (fun i wr => ∃ (k n : Nat), k ≤ nA ∧ i = .int .i64 k ∧ xs.take k = ys.take k ∧ wr = w5.drewN n) (fun i _ => nA - (intOf i).toNat)
    case atStart => exact ⟨0, 0, by omega, rfl, by simp, rfl⟩
    case round =>
      obtain ⟨k, n, hk, rfl, he, hwr⟩ := hrel
      have HE : Hid (xs.take k = ys.take k) := he
      have Xr : Hid (Box4 wr w.heap.size ⟨aA, nA, cA, aB, nB, cB, aM, nM, cM, aP, nP, cP⟩) := by rw [hwr]; exact X5.out
      have Yr : Hid (Box4 wr (w.heap.size + 1) ⟨dA, nA, eA, dB, mB, eB, dM, mM, eM, dP, mP, eP⟩) := by rw [hwr]; exact Y5.out
      have Cr : Hid (Accs wr aA nA xs ∧ Accs wr dA nA ys) := by rw [hwr]; exact C5.out
      have BR : Hid (Below w.heap.size w wr) := by rw [hwr]; exact BW.out.trans ((below_drewN _ _).mono BW.out.size)
      have HW : Hid (wr = w5.drewN n) := hwr
      obtain ⟨x0, x1, x2, x3⟩ := Xr.out
      obtain ⟨y0, y1, y2, y3⟩ := Yr.out
      have L1 : Hid (nA = xs.length) := Cr.out.1.1
      clear he hwr x1 x2 x3 y1 y2 y3
      by_cases hlt : k < nA
      · have hlx : k < xs.length := by have := L1.out; omega
        have hly : k < ys.length := by rw [← HLL.out]; exact hlx
        obtain ⟨b1, o1, ha1, hc1⟩ := Cr.out.1.2.resolve_left (by intro h; rw [h] at hlx; simp at hlx)
        obtain ⟨b2, o2, ha2, hc2⟩ := Cr.out.2.2.resolve_left (by intro h; rw [h] at hly; simp at hly)
        subst ha1 ha2
        obtain ⟨p0, p1, p2⟩ := hc1 k hlx
        obtain ⟨r0, r1, r2⟩ := hc2 k hly
        obtain ⟨x, hx⟩ : ∃ x, xs.getD k a30 = x := ⟨_, rfl⟩
        obtain ⟨y, hy⟩ : ∃ y, ys.getD k a30 = y := ⟨_, rfl⟩
        rw [hx] at p0 p1 p2
        rw [hy] at r0 r1 r2
        have i1 : (k : Int) < (nA : Int) := by omega
        have HX : Hid (xs.getD k a30 = x) := hx
        have HY : Hid (ys.getD k a30 = y) := hy
        obtain ⟨u0, u1, u2⟩ := x
        obtain ⟨v0, v1, v2⟩ := y
        simp only at p0 p1 p2 r0 r1 r2
        have KX : Hid (k < xs.length ∧ k < ys.length) := ⟨hlx, hly⟩
        clear hx hy hc1 hc2 Cr C5 hlx hly X5 Y5 Xr Yr BW
        by_cases hxy : u0 = v0 ∧ u1 = v1 ∧ u2 = v2
        · obtain ⟨rfl, rfl, rfl⟩ := hxy
          go_wp2
          go_quiet (fail)
          go_wp2
          go_roundw
          case rel => exact ⟨k + 1, n + nq, by omega, by go_num, by rw [take_snocA xs a30 k KX.out.1, take_snocA ys a30 k KX.out.2, HE.out, HX.out, HY.out], by rw [HW.out]; first | rfl | exact World.drewN_drewN _ _ _⟩
          case measure => simp [intOf]; omega
        · have HD : Hid (false = decide (xs = ys)) := by
            have : ¬ xs = ys := fun h => hxy (by
              have e : (u0, u1, u2) = (v0, v1, v2) := by rw [← HX.out, ← HY.out, h]
              simpa using e)
            show false = decide (xs = ys)
            rw [decide_eq_false this]
          have hxy' : ((u0 == v0) && ((u1 == v1) && (u2 == v2))) = false := by
            rw [Bool.eq_false_iff]
            simp only [ne_eq, Bool.and_eq_true, beq_iff_eq]
            exact hxy
          clear hxy
          by_cases e0 : (u0 == v0) = true
          · by_cases e1 : (u1 == v1) = true
            · have e2 : (u2 == v2) = false := by simpa [e0, e1] using hxy'
              clear hxy'
              go_wp2
              go_quiet (fail)
              go_wp2
              go_ret
              exact ⟨rt_bool (by rw [HD.out]; simp), BR.out.trans ((below_drewN _ _).mono BR.out.size)⟩
            · replace e1 : (u1 == v1) = false := by simpa using e1
              clear hxy'
              go_wp2
              go_quiet (fail)
              go_wp2
              go_ret
              exact ⟨rt_bool (by rw [HD.out]; simp), BR.out.trans ((below_drewN _ _).mono BR.out.size)⟩
          · replace e0 : (u0 == v0) = false := by simpa using e0
            clear hxy'
            go_wp2
            go_quiet (fail)
            go_wp2
            go_ret
            exact ⟨rt_bool (by rw [HD.out]; simp), BR.out.trans ((below_drewN _ _).mono BR.out.size)⟩
      · obtain rfl : k = nA := by omega
        have HD : Hid (true = decide (xs = ys)) := by
          have h := HE.out
          rw [L1.out, List.take_length, HLL.out, List.take_length] at h
          show true = decide (xs = ys)
          rw [decide_eq_true h]
        clear Cr C5 X5 Y5 Xr Yr BW
        go_wp2
        go_ret
        exact ⟨rt_bool (by rw [HD.out]; first | done | simp), BR.out⟩
  · have h' : ((nA : Int) == (mA : Int)) = false := by rw [beq_eq_false_iff_ne]; omega
    have HD : Hid (false = sameB a b) := sameB_len (by have h1 := HX.out.acc.1; have h2 := HY.out.acc.1; simp only at h1 h2; omega)
    have BB : Hid (Below w.heap.size w ((w.alloc (.cells #[.slice aA nA cA, .slice aB nB cB, .slice aM nM cM, .slice aP nP cP] 26)).alloc (.cells #[.slice dA mA eA, .slice dB mB eB, .slice dM mM eM, .slice dP mP eP] 26))) := by rw [← hw2]; exact B2.out
    clear HX HY X2 Y2 hw2 B2
    go_enter Try.func13, Try.ntmps13
    go_wp2
    go_ret
    exact ⟨rt_bool HD.out, BB.out⟩

end Go.Proofs.Ytpaieecbedgeaaa
