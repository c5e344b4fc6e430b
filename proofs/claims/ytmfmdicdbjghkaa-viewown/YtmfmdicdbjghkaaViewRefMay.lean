/-
  giroref14.May.
-/
import Derived.Test.YtmfmdicdbjghkaaViewRefHeads
import Derived.Test.YtmfmdicdbjghkaaPayEq
import Derived.Test.YtmfmdicdbjghkaaFactsIf
namespace Go.Proofs.Ytmfmdicdbjghkaa
open Go.RowKit
set_option linter.unusedVariables false
set_option linter.unusedSimpArgs false

theorem vOf_split {R : List P7} {k : Nat} (hk : k < R.length) : vOf R (R.getD k p70).fr = vOf (R.take k) (R.getD k p70).fr ++ R.getD k p70 :: vOf (R.drop (k + 1)) (R.getD k p70).fr := by
  have e : R = R.take k ++ R.getD k p70 :: R.drop (k + 1) := by
    rw [getD_get hk, List.getElem_cons_drop, List.take_append_drop]
  rw [vOf_eq, vOf_eq, vOf_eq]
  obtain ⟨x, hx⟩ : ∃ x, R.getD k p70 = x := ⟨_, rfl⟩
  rw [hx] at e ⊢
  obtain ⟨A, hA⟩ : ∃ A, R.take k = A := ⟨_, rfl⟩
  obtain ⟨B, hB⟩ : ∃ B, R.drop (k + 1) = B := ⟨_, rfl⟩
  rw [hA, hB] at e ⊢
  rw [e, List.filter_append, List.filter_cons]
  simp
theorem plain_iff (R : List P7) (f : Int) : ((vOf R f).all fun p => p.cl == 3) = decide (othF R f = 0) := by
  rw [Bool.eq_iff_iff, decide_eq_true_eq, vOf_eq, List.all_eq_true]
  unfold othF
  rw [List.length_eq_zero_iff, List.filter_eq_nil_iff]
  constructor
  · intro h p hp hc
    simp at hc
    have := h p (List.mem_filter.2 ⟨hp, by simpa using hc.1⟩)
    simp at this
    exact hc.2 this
  · intro h p hp
    obtain ⟨hp, hc⟩ := List.mem_filter.1 hp
    have := h p hp
    simp at this hc
    simpa using this hc
theorem may_or {R : List P7} {k : Nat} (hq : R.Pairwise QR) (hk : k < R.length) :
    ∃ y m, vOf R (R.getD k p70).fr = y :: m ∧ (eqB7 y (R.getD k p70) || ((y :: m).all fun p => p.cl == 3)) = mayK R (R.take k) (R.getD k p70) := by
  have hs := vOf_split hk
  have hp := plain_iff R (R.getD k p70).fr
  unfold mayK cntF
  cases hv : vOf (R.take k) (R.getD k p70).fr with
  | nil =>
    rw [hv] at hs
    refine ⟨_, _, hs, ?_⟩
    rw [eqB7_self]
    simp
  | cons y m =>
    rw [hv] at hs
    refine ⟨y, _, hs, ?_⟩
    have hy : y ∈ R.take k := by
      have : y ∈ vOf (R.take k) (R.getD k p70).fr := by rw [hv]; simp
      exact selA_mem this
    obtain ⟨j, hj, rfl⟩ := in_getD hy
    have hj2 : j < k := by simp at hj; omega
    rw [getD_take hj2]
    rw [eqB7_id (pw_at hq hj2 hk).2]
    rw [hs] at hp
    rw [← getD_take (l := R) hj2]
    rw [Bool.false_or]
    refine Eq.trans hp ?_
    simp
theorem que_ready {L : List P7} (h : L.Pairwise QR) (t : Int) : (vReady L t).Pairwise QR := by
  rw [vReady_eq]
  exact h.sublist List.filter_sublist

set_option maxHeartbeats 4000000 in
set_option maxRecDepth 100000 in
theorem refVMay_any (a : Option Addr) (n c : Nat) (L : List P7) (t : Int) (w : World) (h : PGood w a n c L) (hm : n ≤ 100000) (hq : L.Pairwise QR) :
    Calls Try.prog 14 #[.slice a n c, .int .i64 t] w (PEnd w (vMay L t)) := by
  have V := refVReady_any a n c L t w h hm
  have hlen : (vReady L t).length ≤ n := by have := sel_len (readyK t) L; have := h.len; show (sel (readyK t) L).length ≤ n; omega
  have hqr := que_ready hq t
  unfold PEnd at V
  unfold vMay
  obtain ⟨R, hR⟩ : ∃ R, vReady L t = R := ⟨_, rfl⟩
  rw [hR] at V hlen hqr ⊢
  obtain ⟨nr, hnr⟩ : ∃ nr, R.length = nr := ⟨_, rfl⟩
  rw [hnr] at V hlen
  have HQR : Hid (R.Pairwise QR) := hqr
  have HN : Hid (nr = R.length) := hnr.symm
  have hnm : nr ≤ 100000 := by omega
  clear h hm hq hqr hR hnr hlen
  go_enter Try.func14, Try.ntmps14
  go_wp2_with fail
  go_at_call 10
  refine V.mono ?_
  rintro e w1 ⟨a1, c1, rfl, g1, n1, hb⟩
  have B1 : Hid (Below w.heap.size w w1) := hb
  have G1 : Hid (PGood w1 a1 nr c1 R) := g1
  clear V n1 g1 hb
  go_wp2
  go_loopw [6, 7] (fun tv i wr => ∃ (k z : Nat) (v : Value), k ≤ nr ∧ i = .int .i64 k ∧ v = tv ∧ z ≤ k ∧ Hid (wr.ownsRow w1.heap.size 34 7 v z (payL (sel (mayK R) (R.take k)))) ∧ Hid (Below w1.heap.size w1 wr)) (fun _ i _ => nr - (intOf i).toNat)
  case atStart => exact ⟨0, 0, _, by omega, rfl, rfl, by omega, World.ownsRow_nil _ _ _ _, Below.refl _ _⟩
  case round =>
    obtain ⟨k, z, v, hk, rfl, rfl, hz, HO, HB⟩ := hrel
    obtain ⟨wo, rfl⟩ : ∃ wo, wo = wr := ⟨wr, rfl⟩
    by_cases hlt : k < nr
    · obtain ⟨b, off, rfl, HC⟩ := G1.out.at hlt
      have i1 : (k : Int) < (nr : Int) := by omega
      obtain ⟨y, m, hv, hor⟩ := may_or HQR.out (k := k) (by have := HN.out; omega)
      have O := refVOf_any (some ⟨b, off, none⟩) nr c1 R (R.getD k p70).fr wo (G1.out.below HB.out) hnm
      obtain ⟨x, hx⟩ : ∃ x, R.getD k p70 = x := ⟨_, rfl⟩
      have C0 := HC k hlt
      rw [hx] at C0 hv hor O
      unfold PEnd at O
      rw [hv] at O
      have hy1 : m.length + 1 ≤ nr := by have := sel_len (ofK x.fr) R; have e : (sel (ofK x.fr) R) = y :: m := hv; rw [e] at this; simp at this; have := HN.out; omega
      obtain ⟨Y, hY⟩ : ∃ Y, Y = y :: m := ⟨_, rfl⟩
      rw [← hY] at O hor
      obtain ⟨mc, hmc⟩ : ∃ mc, Y.length = mc := ⟨_, rfl⟩
      rw [hmc] at O
      have hY0 : Y.getD 0 p70 = y := by rw [hY]; rfl
      have hmc1 : 1 ≤ mc := by rw [← hmc, hY]; simp
      have hmc2 : mc ≤ 100000 := by rw [← hmc, hY]; simp; omega
      have HMC : Hid (Y.length = mc) := hmc
      have HY0 : Hid (Y.getD 0 p70 = y) := hY0
      obtain ⟨x0, x1, x2, x3, x4, x5, x6⟩ := x
      obtain ⟨y0, y1, y2, y3, y4, y5, y6⟩ := y
      have C : Hid (At7 w1 b (off + k * 7) (x0, x1, x2, x3, x4, x5, x6)) := C0
      have HX : Hid (R.getD k p70 = (x0, x1, x2, x3, x4, x5, x6)) := hx
      have HOR : Hid ((eqB7 (y0, y1, y2, y3, y4, y5, y6) (x0, x1, x2, x3, x4, x5, x6) || Y.all fun p => p.cl == 3) = mayK R (R.take k) (x0, x1, x2, x3, x4, x5, x6)) := hor
      obtain ⟨p0, p1, p2, p3, p4, p5, p6⟩ := C.out.below HB.out
      simp only [P7.id, P7.fr, P7.to, P7.am, P7.cl, P7.st, P7.ti] at p0 p1 p2 p3 p4 p5 p6
      clear HC C0 hx hor hv hY hmc hY0 hy1 G1 HQR
      go_wp2_with fail
      go_at_call 12
      refine O.mono ?_
      rintro e w3 ⟨a3, c3, rfl, g3, n3, hb⟩
      obtain ⟨mb, mo, rfl, HC3⟩ := g3.at (i := 0) (by omega)
      have HD : Hid (∀ j, j < mc → At7 w3 mb (mo + j * 7) (Y.getD j p70)) := HC3
      have B3 : Hid (Below w1.heap.size w1 w3) := HB.out.trans (hb.mono HB.out.size)
      have O3 : Hid (w3.ownsRow w1.heap.size 34 7 v z (payL (sel (mayK R) (R.take k)))) := own_below HO.out hb
      clear p0 p1 p2 p3 p4 p5 p6 g3 n3 hb HC3 HO HB O
      go_wp2
      go_loop [9, 10] (fun pv iv => ∃ (j : Nat) (P : Bool), j ≤ mc ∧ iv = .int .i64 j ∧ pv = .bool P ∧ Hid (P = (Y.take j).all fun p => p.cl == 3)) (fun _ iv => mc - (intOf iv).toNat)
      case atStart => exact ⟨0, true, by omega, rfl, rfl, rfl⟩
      case round =>
        obtain ⟨j, P, hj, rfl, rfl, HP⟩ := hrel
        by_cases hjlt : j < mc
        · have j1 : (j : Int) < (mc : Int) := by omega
          have D := HD.out j hjlt
          have HT : Hid (((Y.take (j + 1)).all fun p => p.cl == 3) = (((Y.take j).all fun p => p.cl == 3) && (Y.getD j p70).cl == 3)) := by
            show _ = _
            rw [take_snoc7 Y (by have := HMC.out; omega), List.all_append]
            simp
          obtain ⟨s, hs⟩ : ∃ s, Y.getD j p70 = s := ⟨_, rfl⟩
          rw [hs] at D HT
          obtain ⟨s0, s1, s2, s3, s4, s5, s6⟩ := s
          obtain ⟨p0, p1, p2, p3, p4, p5, p6⟩ := D
          simp only [P7.id, P7.fr, P7.to, P7.am, P7.cl, P7.st, P7.ti] at p0 p1 p2 p3 p4 p5 p6 HT
          clear hs HD
          cases P with
          | false =>
            have HP2 : Hid (false = (Y.take (j + 1)).all fun p => p.cl == 3) := by
              show _ = _
              rw [HT.out, ← HP.out]; rfl
            go_wp2
            go_round
            case rel => exact ⟨j + 1, false, by omega, by go_num, rfl, HP2⟩
            case measure => simp [intOf]; omega
          | true =>
            have HP2 : Hid ((s4 == 3) = (Y.take (j + 1)).all fun p => p.cl == 3) := by
              show _ = _
              rw [HT.out, ← HP.out]; rfl
            go_wp2
            go_round
            case rel => exact ⟨j + 1, (s4 == 3), by omega, by go_num, rfl, HP2⟩
            case measure => simp [intOf]; omega
        · obtain rfl : j = mc := by omega
          have HPE : Hid (P = Y.all fun p => p.cl == 3) := by
            show P = _
            rw [HP.out, ← HMC.out, List.take_length]
          have D := HD.out 0 hmc1
          rw [HY0.out, Nat.zero_mul, Nat.add_zero] at D
          have D0 : Hid (At7 w3 mb mo (y0, y1, y2, y3, y4, y5, y6)) := D
          have m1 : ¬ j = 0 := by omega
          obtain ⟨E, hE⟩ : ∃ E, eqB7 (y0, y1, y2, y3, y4, y5, y6) (x0, x1, x2, x3, x4, x5, x6) = E := ⟨_, rfl⟩
          have HE7 : Hid (eqB7 (y0, y1, y2, y3, y4, y5, y6) (x0, x1, x2, x3, x4, x5, x6) = E) := hE
          have hEP : (E || P) = mayK R (R.take k) (x0, x1, x2, x3, x4, x5, x6) := by rw [← hE, HPE.out]; exact HOR.out
          clear D HD hE HP HPE HOR HY0
          cases hK : mayK R (R.take k) (x0, x1, x2, x3, x4, x5, x6) with
          | false =>
            rw [hK] at hEP
            have HEP : Hid ((E || P) = false) := hEP
            have HS : Hid (sel (mayK R) (R.take k) = sel (mayK R) (R.take (k + 1))) := sel_no (by have := HN.out; omega) HX.out hK
            clear hEP hK
            go_wp2_with fail
            refine region_owes (L := [Fact.is (.slice (some ⟨mb, mo, none⟩) j c3),
              Fact.is (.pointer (some ⟨mb, mo, none⟩)),
              Fact.is (.agg #[.int .i64 y0, .int .i64 y1, .int .i64 y2, .int .i64 y3, .int .i64 y4, .int .i64 y5, .int .i64 y6]),
              Fact.is (.slice (some ⟨b, off, none⟩) nr c1),
              Fact.is (.int .i64 k),
              Fact.is (.pointer (some ⟨b, off + k * 7, none⟩)),
              Fact.is (.agg #[.int .i64 x0, .int .i64 x1, .int .i64 x2, .int .i64 x3, .int .i64 x4, .int .i64 x5, .int .i64 x6]),
              Fact.is (.bool E),
              Fact.is (.bool E),
              Fact.when (E == false) (.bool P),
              Fact.is (.bool false)])
              (T := [42, 43, 44, 45, 46, 47, 48, 49, 50, 51, 52]) (by kernel_rfl) (by kernel_rfl) rfl ?owes ?_
            case owes =>
              refine .cons (owes_move (.tmp 8) (.inl rfl) fun q u lh => ⟨wants_free rfl, lh.old 8 rfl⟩) ?_
              refine .cons (owes_value fun q u lh => ⟨wants_free rfl, .pointer (some ⟨mb, mo, none⟩), by have e42 : q.tmps.getD 42 undef = .slice (some ⟨mb, mo, none⟩) j c3 := lh.dep 0 rfl; simp [execOp, Act.eval, e42, m1, go_sem], rfl⟩) ?_
              refine .cons (owes_value fun q u lh => ⟨wants_free rfl, .agg #[.int .i64 y0, .int .i64 y1, .int .i64 y2, .int .i64 y3, .int .i64 y4, .int .i64 y5, .int .i64 y6], by have e43 : q.tmps.getD 43 undef = .pointer (some ⟨mb, mo, none⟩) := lh.dep 1 rfl; obtain ⟨z0, z1, z2, z3, z4, z5, z6⟩ := D0.out.below lh.below; simp [execOp, Act.eval, e43, z0, z1, z2, z3, z4, z5, z6, go_sem], rfl⟩) ?_
              refine .cons (owes_move (.tmp 5) (.inl rfl) fun q u lh => ⟨wants_free rfl, lh.old 5 rfl⟩) ?_
              refine .cons (owes_move (.tmp 7) (.inl rfl) fun q u lh => ⟨wants_free rfl, lh.old 7 rfl⟩) ?_
              refine .cons (owes_value fun q u lh => ⟨wants_free rfl, .pointer (some ⟨b, off + k * 7, none⟩), by have e45 : q.tmps.getD 45 undef = .slice (some ⟨b, off, none⟩) nr c1 := lh.dep 3 rfl; have e46 : q.tmps.getD 46 undef = .int .i64 k := lh.dep 4 rfl; simp [execOp, Act.eval, e45, e46, i1, go_sem], rfl⟩) ?_
              refine .cons (owes_value fun q u lh => ⟨wants_free rfl, .agg #[.int .i64 x0, .int .i64 x1, .int .i64 x2, .int .i64 x3, .int .i64 x4, .int .i64 x5, .int .i64 x6], by have e47 : q.tmps.getD 47 undef = .pointer (some ⟨b, off + k * 7, none⟩) := lh.dep 5 rfl; obtain ⟨z0, z1, z2, z3, z4, z5, z6⟩ := (C.out.below B3.out).below lh.below; simp [execOp, Act.eval, e47, z0, z1, z2, z3, z4, z5, z6, go_sem], rfl⟩) ?_
              refine .cons (owes_eqlB 34 34 (.tmp 44) (.tmp 48) E rfl rfl fun q u lh => ⟨wants_free rfl, _, _, lh.dep 2 rfl, lh.dep 6 rfl, by rw [← HE7.out]; exact pay_eql y0 y1 y2 y3 y4 y5 y6 x0 x1 x2 x3 x4 x5 x6⟩) ?_
              refine .cons (owes_move (.tmp 49) (.inl rfl) fun q u lh => ⟨wants_free rfl, lh.dep 7 rfl⟩) ?_
              refine .cons (owes_when 8 false E (.bool P) rfl rfl rfl rfl fun hg q u lh => by have e9 : q.tmps.getD 9 undef = .bool P := lh.old 9 rfl; simp [execOp, Act.eval, e9, go_sem]) ?_
              refine .cons (owes_or 50 51 8 9 E P rfl rfl rfl rfl rfl rfl rfl rfl (by rw [HEP.out]; rfl)) ?_
              exact .nil _
            intro q u hb hsz hdf hold hfact
            obtain ⟨v51, e51⟩ : ∃ v, q.tmps.getD 51 undef = v := ⟨_, rfl⟩
            have B4 : Hid (Below w1.heap.size w1 u) := B3.out.trans (hb.mono B3.out.size)
            have O4 : Hid (u.ownsRow w1.heap.size 34 7 v z (payL (sel (mayK R) (R.take k)))) := own_below O3.out hb
            obtain ⟨z0, z1, z2, z3, z4, z5, z6⟩ := C.out.below B4.out
            simp only [P7.id, P7.fr, P7.to, P7.am, P7.cl, P7.st, P7.ti] at z0 z1 z2 z3 z4 z5 z6
            have O5 : Hid (u.ownsRow w1.heap.size 34 7 v z (payL (sel (mayK R) (R.take (k + 1))))) := by rw [← HS.out]; exact O4.out
            obtain rfl := frame_puts hsz hdf [42, 43, 44, 45, 46, 47, 48, 49, 50, 51, 52] hold [(42, Value.slice (some ⟨mb, mo, none⟩) j c3), (43, Value.pointer (some ⟨mb, mo, none⟩)), (44, Value.agg #[.int .i64 y0, .int .i64 y1, .int .i64 y2, .int .i64 y3, .int .i64 y4, .int .i64 y5, .int .i64 y6]), (45, Value.slice (some ⟨b, off, none⟩) nr c1), (46, Value.int .i64 k), (47, Value.pointer (some ⟨b, off + k * 7, none⟩)), (48, Value.agg #[.int .i64 x0, .int .i64 x1, .int .i64 x2, .int .i64 x3, .int .i64 x4, .int .i64 x5, .int .i64 x6]), (49, Value.bool E), (50, Value.bool E), (51, v51), (52, Value.bool false)] ⟨hfact 0 (by decide), hfact 1 (by decide), hfact 2 (by decide), hfact 3 (by decide), hfact 4 (by decide), hfact 5 (by decide), hfact 6 (by decide), hfact 7 (by decide), hfact 8 (by decide), e51, hfact 10 (by decide), trivial⟩ rfl
            clear hsz hdf hold hfact
            clear hb O3 B3 D0 HE7
            simp only [puts, Act.put, List.setIfInBounds_toArray, List.set_cons_zero, List.set_cons_succ]
            go_wp2
            go_roundw
            case rel => exact ⟨k + 1, z, v, by omega, by go_num, rfl, by omega, O5, B4⟩
            case measure => simp [intOf]; omega
          | true =>
            rw [hK] at hEP
            have HEP : Hid ((E || P) = true) := hEP
            have HS : Hid (sel (mayK R) (R.take k) ++ [(x0, x1, x2, x3, x4, x5, x6)] = sel (mayK R) (R.take (k + 1))) := sel_yes (by have := HN.out; omega) HX.out hK
            clear hEP hK
            go_wp2_with fail
            refine region_owes (L := [Fact.is (.slice (some ⟨mb, mo, none⟩) j c3),
              Fact.is (.pointer (some ⟨mb, mo, none⟩)),
              Fact.is (.agg #[.int .i64 y0, .int .i64 y1, .int .i64 y2, .int .i64 y3, .int .i64 y4, .int .i64 y5, .int .i64 y6]),
              Fact.is (.slice (some ⟨b, off, none⟩) nr c1),
              Fact.is (.int .i64 k),
              Fact.is (.pointer (some ⟨b, off + k * 7, none⟩)),
              Fact.is (.agg #[.int .i64 x0, .int .i64 x1, .int .i64 x2, .int .i64 x3, .int .i64 x4, .int .i64 x5, .int .i64 x6]),
              Fact.is (.bool E),
              Fact.is (.bool E),
              Fact.when (E == false) (.bool P),
              Fact.is (.bool true)])
              (T := [42, 43, 44, 45, 46, 47, 48, 49, 50, 51, 52]) (by kernel_rfl) (by kernel_rfl) rfl ?owes ?_
            case owes =>
              refine .cons (owes_move (.tmp 8) (.inl rfl) fun q u lh => ⟨wants_free rfl, lh.old 8 rfl⟩) ?_
              refine .cons (owes_value fun q u lh => ⟨wants_free rfl, .pointer (some ⟨mb, mo, none⟩), by have e42 : q.tmps.getD 42 undef = .slice (some ⟨mb, mo, none⟩) j c3 := lh.dep 0 rfl; simp [execOp, Act.eval, e42, m1, go_sem], rfl⟩) ?_
              refine .cons (owes_value fun q u lh => ⟨wants_free rfl, .agg #[.int .i64 y0, .int .i64 y1, .int .i64 y2, .int .i64 y3, .int .i64 y4, .int .i64 y5, .int .i64 y6], by have e43 : q.tmps.getD 43 undef = .pointer (some ⟨mb, mo, none⟩) := lh.dep 1 rfl; obtain ⟨z0, z1, z2, z3, z4, z5, z6⟩ := D0.out.below lh.below; simp [execOp, Act.eval, e43, z0, z1, z2, z3, z4, z5, z6, go_sem], rfl⟩) ?_
              refine .cons (owes_move (.tmp 5) (.inl rfl) fun q u lh => ⟨wants_free rfl, lh.old 5 rfl⟩) ?_
              refine .cons (owes_move (.tmp 7) (.inl rfl) fun q u lh => ⟨wants_free rfl, lh.old 7 rfl⟩) ?_
              refine .cons (owes_value fun q u lh => ⟨wants_free rfl, .pointer (some ⟨b, off + k * 7, none⟩), by have e45 : q.tmps.getD 45 undef = .slice (some ⟨b, off, none⟩) nr c1 := lh.dep 3 rfl; have e46 : q.tmps.getD 46 undef = .int .i64 k := lh.dep 4 rfl; simp [execOp, Act.eval, e45, e46, i1, go_sem], rfl⟩) ?_
              refine .cons (owes_value fun q u lh => ⟨wants_free rfl, .agg #[.int .i64 x0, .int .i64 x1, .int .i64 x2, .int .i64 x3, .int .i64 x4, .int .i64 x5, .int .i64 x6], by have e47 : q.tmps.getD 47 undef = .pointer (some ⟨b, off + k * 7, none⟩) := lh.dep 5 rfl; obtain ⟨z0, z1, z2, z3, z4, z5, z6⟩ := (C.out.below B3.out).below lh.below; simp [execOp, Act.eval, e47, z0, z1, z2, z3, z4, z5, z6, go_sem], rfl⟩) ?_
              refine .cons (owes_eqlB 34 34 (.tmp 44) (.tmp 48) E rfl rfl fun q u lh => ⟨wants_free rfl, _, _, lh.dep 2 rfl, lh.dep 6 rfl, by rw [← HE7.out]; exact pay_eql y0 y1 y2 y3 y4 y5 y6 x0 x1 x2 x3 x4 x5 x6⟩) ?_
              refine .cons (owes_move (.tmp 49) (.inl rfl) fun q u lh => ⟨wants_free rfl, lh.dep 7 rfl⟩) ?_
              refine .cons (owes_when 8 false E (.bool P) rfl rfl rfl rfl fun hg q u lh => by have e9 : q.tmps.getD 9 undef = .bool P := lh.old 9 rfl; simp [execOp, Act.eval, e9, go_sem]) ?_
              refine .cons (owes_or 50 51 8 9 E P rfl rfl rfl rfl rfl rfl rfl rfl (by rw [HEP.out]; rfl)) ?_
              exact .nil _
            intro q u hb hsz hdf hold hfact
            obtain ⟨v51, e51⟩ : ∃ v, q.tmps.getD 51 undef = v := ⟨_, rfl⟩
            have B4 : Hid (Below w1.heap.size w1 u) := B3.out.trans (hb.mono B3.out.size)
            have O4 : Hid (u.ownsRow w1.heap.size 34 7 v z (payL (sel (mayK R) (R.take k)))) := own_below O3.out hb
            obtain ⟨z0, z1, z2, z3, z4, z5, z6⟩ := C.out.below B4.out
            simp only [P7.id, P7.fr, P7.to, P7.am, P7.cl, P7.st, P7.ti] at z0 z1 z2 z3 z4 z5 z6
            obtain rfl := frame_puts hsz hdf [42, 43, 44, 45, 46, 47, 48, 49, 50, 51, 52] hold [(42, Value.slice (some ⟨mb, mo, none⟩) j c3), (43, Value.pointer (some ⟨mb, mo, none⟩)), (44, Value.agg #[.int .i64 y0, .int .i64 y1, .int .i64 y2, .int .i64 y3, .int .i64 y4, .int .i64 y5, .int .i64 y6]), (45, Value.slice (some ⟨b, off, none⟩) nr c1), (46, Value.int .i64 k), (47, Value.pointer (some ⟨b, off + k * 7, none⟩)), (48, Value.agg #[.int .i64 x0, .int .i64 x1, .int .i64 x2, .int .i64 x3, .int .i64 x4, .int .i64 x5, .int .i64 x6]), (49, Value.bool E), (50, Value.bool E), (51, v51), (52, Value.bool true)] ⟨hfact 0 (by decide), hfact 1 (by decide), hfact 2 (by decide), hfact 3 (by decide), hfact 4 (by decide), hfact 5 (by decide), hfact 6 (by decide), hfact 7 (by decide), hfact 8 (by decide), e51, hfact 10 (by decide), trivial⟩ rfl
            clear hsz hdf hold hfact
            clear hb O3 B3 D0 HE7
            simp only [puts, Act.put, List.setIfInBounds_toArray, List.set_cons_zero, List.set_cons_succ]
            go_wp2_with (at_builtin; refine wpList_append_pays rfl _ _ rfl w1.heap.size v z _ rfl (own_below O4.out (box_below _ _)) (some ⟨u.heap.size, 0, none⟩) 1 1 [(x0, x1, x2, x3, x4, x5, x6)] rfl (PGood.lit1 u (x0, x1, x2, x3, x4, x5, x6)) (by omega) (by rw [size_alloc]; have := B4.out.size; omega) ?_)
            intro v5 w5 ho5 hg5
            have O5 : Hid (w5.ownsRow w1.heap.size 34 7 v5 (z + 1) (payL (sel (mayK R) (R.take (k + 1))))) := by rw [← HS.out]; exact ho5
            have B5 : Hid (Below w1.heap.size w1 w5) := (B4.out.alloc B4.out.size _).grown hg5 (by rw [size_alloc]; have := B4.out.size; omega) (fun i hi => (O4.out.lt i hi).1)
            clear ho5 hg5 O4 B4
            go_wp2
            go_roundw
            case rel => exact ⟨k + 1, z + 1, v5, by omega, by go_num, rfl, by omega, O5, B5⟩
            case measure => simp [intOf]; omega
    · obtain rfl : k = nr := by omega
      have HF : Hid (sel (mayK R) (R.take k) = sel (mayK R) R) := sel_all HN.out
      clear G1 HQR
      go_wp2
      go_ret
      have := HO.out
      rw [HF.out] at this
      obtain ⟨a2, c2, hv, g, hnew⟩ := PGood.own this
      subst hv
      exact ⟨a2, c2, rfl, g, fun x hx => Nat.le_trans B1.out.size (hnew x hx), B1.out.trans (HB.out.mono B1.out.size)⟩

end Go.Proofs.Ytmfmdicdbjghkaa
