/-
  giroref14.Heads.
-/
import Derived.Test.YtmfmdicdbjghkaaViewRef
import Derived.Test.YtmfmdicdbjghkaaViewHeads
import Derived.Test.YtmfmdicdbjghkaaPFacts
namespace Go.Proofs.Ytmfmdicdbjghkaa
open Go.RowKit
set_option linter.unusedVariables false
set_option linter.unusedSimpArgs false

theorem headK_in {M : List Int} {A : List P7} {x0 x2 x3 x4 x5 x6 mq : Int} {r cq nm : Nat} {B : Bool} (hq : cntF A (r : Int) = cq) (hm : M.getD r 0 = mq) (hn : nm = M.length) (g0 : decide ((0 : Int) ≤ (r : Int)) = true) (g1 : decide ((r : Int) < (nm : Int)) = true) (g2 : decide ((cq : Int) < mq) = B) : headK M A (x0, (r : Int), x2, x3, x4, x5, x6) = B := by
  subst hq hm hn
  unfold headK
  simp only [P7.fr, Int.toNat_natCast]
  rw [g0, g1, g2]
  rfl
set_option maxHeartbeats 4000000 in
set_option maxRecDepth 100000 in
theorem refVHeads_any (a am : Option Addr) (n c nm cm : Nat) (L : List P7) (M : List Int) (w : World) (h : PGood w a n c L) (hM : Sl .i64 w am nm M) (hm : n ≤ 100000) (hmm : nm ≤ 1000000) :
    Calls Try.prog 16 #[.slice a n c, .slice am nm cm] w (PEnd w (vHeads L M)) := by
  have H : Hid (PGood w a n c L) := h
  have HN : Hid (n = L.length) := h.len
  have HM : Hid (Sl .i64 w am nm M) := hM
  have HML : Hid (nm = M.length) := hM.1
  have hcap := h.cap
  have hmax := h.max
  clear h hM
  go_enter Try.func16, Try.ntmps16
  go_wp2
  go_loopw [5, 6] (fun tv i wr => ∃ (k z : Nat) (v : Value), k ≤ n ∧ i = .int .i64 k ∧ v = tv ∧ z ≤ k ∧ Hid (wr.ownsRow w.heap.size 34 7 v z (payL (sel (headK M) (L.take k)))) ∧ Hid (Below w.heap.size w wr)) (fun _ i _ => n - (intOf i).toNat)
  case atStart => exact ⟨0, 0, _, by omega, rfl, rfl, by omega, World.ownsRow_nil _ _ _ _, Below.refl _ _⟩
  case round =>
    obtain ⟨k, z, v, hk, rfl, rfl, hz, HO, HB⟩ := hrel
    by_cases hlt : k < n
    · obtain ⟨b, off, rfl, HC⟩ := H.out.at hlt
      have i1 : (k : Int) < (n : Int) := by omega
      have i2 : (k : Int) ≤ (c : Int) := by omega
      have i3 : (0 : Int) ≤ (k : Int) := by omega
      obtain ⟨x, hx⟩ : ∃ x, L.getD k p70 = x := ⟨_, rfl⟩
      have C0 := HC k hlt
      rw [hx] at C0
      obtain ⟨x0, x1, x2, x3, x4, x5, x6⟩ := x
      have C : Hid (At7 w b (off + k * 7) (x0, x1, x2, x3, x4, x5, x6)) := C0
      have HX : Hid (L.getD k p70 = (x0, x1, x2, x3, x4, x5, x6)) := hx
      have O : Hid (∀ u, Below w.heap.size w u → Calls Try.prog 12 #[.slice (some ⟨b, off, none⟩) k c, .int .i64 x1] u (PEnd u (vOf (L.take k) x1))) := fun u hu => refVOf_any (some ⟨b, off, none⟩) k c (L.take k) x1 u ((H.out.below hu).take k (by omega)) (by omega)
      obtain ⟨cq, hq⟩ : ∃ cq : Nat, (vOf (L.take k) x1).length = cq := ⟨_, rfl⟩
      have HQ : Hid ((vOf (L.take k) x1).length = cq) := hq
      have hqc : cntF (L.take k) x1 = cq := hq
      have hnl := HML.out
      clear HC C0 hx hq H
      by_cases hneg : x1 < 0
      · have g0 : decide ((0 : Int) ≤ x1) = false := by rw [decide_eq_false_iff_not]; omega
        have HE : Hid (sel (headK M) (L.take k) = sel (headK M) (L.take (k + 1))) := sel_no (by have := HN.out; omega) HX.out (by unfold headK; simp only [P7.fr]; rw [g0]; rfl)
        clear hqc hnl hneg
        go_wp2_with fail
        refine region_owes (L := [Fact.is (.slice (some ⟨b, off, none⟩) n c),
          Fact.is (.int .i64 k),
          Fact.is (.slice (some ⟨b, off, none⟩) k c),
          Fact.is (.slice (some ⟨b, off, none⟩) n c),
          Fact.is (.int .i64 k),
          Fact.is (.pointer (some ⟨b, off + k * 7, none⟩)),
          Fact.is (.pointer (some ⟨b, off + k * 7 + 1, none⟩)),
          Fact.is (.int .i64 x1),
          Fact.pnew w.heap.size (vOf (L.take k) x1),
          Fact.is (.int .i64 cq),
          Fact.is (.int .i64 cq)])
          (T := [14, 15, 16, 17, 18, 19, 20, 21, 22, 23, 7]) (by kernel_rfl) (by kernel_rfl) rfl ?owes ?_
        case owes =>
          refine .cons (owes_move (.tmp 0) (.inl rfl) fun q u lh => ⟨wants_free rfl, lh.old 0 rfl⟩) ?_
          refine .cons (owes_move (.tmp 6) (.inl rfl) fun q u lh => ⟨wants_free rfl, lh.old 6 rfl⟩) ?_
          refine .cons (owes_value fun q u lh => ⟨wants_free rfl, .slice (some ⟨b, off, none⟩) k c, by have e14 : q.tmps.getD 14 undef = .slice (some ⟨b, off, none⟩) n c := lh.dep 0 rfl; have e15 : q.tmps.getD 15 undef = .int .i64 k := lh.dep 1 rfl; simp [execOp, Act.eval, e14, e15, i2, i3, go_sem], rfl⟩) ?_
          refine .cons (owes_move (.tmp 0) (.inl rfl) fun q u lh => ⟨wants_free rfl, lh.old 0 rfl⟩) ?_
          refine .cons (owes_move (.tmp 6) (.inl rfl) fun q u lh => ⟨wants_free rfl, lh.old 6 rfl⟩) ?_
          refine .cons (owes_value fun q u lh => ⟨wants_free rfl, .pointer (some ⟨b, off + k * 7, none⟩), by have e17 : q.tmps.getD 17 undef = .slice (some ⟨b, off, none⟩) n c := lh.dep 3 rfl; have e18 : q.tmps.getD 18 undef = .int .i64 k := lh.dep 4 rfl; simp [execOp, Act.eval, e17, e18, i1, go_sem], rfl⟩) ?_
          refine .cons (owes_value fun q u lh => ⟨wants_free rfl, .pointer (some ⟨b, off + k * 7 + 1, none⟩), by have e19 : q.tmps.getD 19 undef = .pointer (some ⟨b, off + k * 7, none⟩) := lh.dep 5 rfl; simp [execOp, Act.eval, e19, go_sem], rfl⟩) ?_
          refine .cons (owes_value fun q u lh => ⟨wants_free rfl, .int .i64 x1, by have e20 : q.tmps.getD 20 undef = .pointer (some ⟨b, off + k * 7 + 1, none⟩) := lh.dep 6 rfl; obtain ⟨z0, z1, z2, z3, z4, z5, z6⟩ := (C.out.below HB.out).below lh.below; simp [execOp, Act.eval, e20, z1, go_sem], rfl⟩) ?_
          refine .cons (owes_call 12 Try.func12 (by kernel_rfl) (by kernel_rfl) [.tmp 16, .tmp 21] #[22, 3] rfl fun q u lh => ⟨wants_free rfl, by have e16 : q.tmps.getD 16 undef = .slice (some ⟨b, off, none⟩) k c := lh.dep 2 rfl; have e21 : q.tmps.getD 21 undef = .int .i64 x1 := lh.dep 7 rfl; show Calls Try.prog 12 #[q.tmps.getD 16 undef, q.tmps.getD 21 undef] u _; rw [e16, e21]; exact pend_fact (Nat.le_trans HB.out.size lh.below.size) (O.out u (HB.out.trans (lh.below.mono HB.out.size)))⟩) ?_
          refine .cons (owes_value fun q u lh => ⟨wants_free rfl, .int .i64 cq, by obtain ⟨aa, cc, e22, -⟩ := lh.dep 8 rfl; have e22 : q.tmps.getD 22 undef = .slice aa (vOf (L.take k) x1).length cc := e22; rw [HQ.out] at e22; simp [execOp, Act.eval, e22, go_sem], rfl⟩) ?_
          refine .cons (owes_move (.tmp 23) (.inr rfl) fun q u lh => ⟨wants_free rfl, lh.dep 9 rfl⟩) ?_
          exact .nil _
        intro q u hb hsz hdf hold hfact
        obtain ⟨v22, e22⟩ : ∃ v, q.tmps.getD 22 undef = v := ⟨_, rfl⟩
        have f22 : (Fact.pnew w.heap.size (vOf (L.take k) x1)).1 u v22 := by rw [← e22]; exact hfact 8 (by decide)
        have B1 : Hid (Below w.heap.size w u) := HB.out.trans (hb.mono HB.out.size)
        obtain ⟨z0, z1, z2, z3, z4, z5, z6⟩ := C.out.below B1.out
        simp only [P7.id, P7.fr, P7.to, P7.am, P7.cl, P7.st, P7.ti] at z0 z1 z2 z3 z4 z5 z6
        have O3 : Hid (u.ownsRow w.heap.size 34 7 v z (payL (sel (headK M) (L.take (k + 1))))) := by rw [← HE.out]; exact own_below HO.out hb
        obtain rfl := frame_puts hsz hdf [14, 15, 16, 17, 18, 19, 20, 21, 22, 23, 7] hold [(14, Value.slice (some ⟨b, off, none⟩) n c), (15, Value.int .i64 k), (16, Value.slice (some ⟨b, off, none⟩) k c), (17, Value.slice (some ⟨b, off, none⟩) n c), (18, Value.int .i64 k), (19, Value.pointer (some ⟨b, off + k * 7, none⟩)), (20, Value.pointer (some ⟨b, off + k * 7 + 1, none⟩)), (21, Value.int .i64 x1), (22, v22), (23, Value.int .i64 cq), (7, Value.int .i64 cq)] ⟨hfact 0 (by decide), hfact 1 (by decide), hfact 2 (by decide), hfact 3 (by decide), hfact 4 (by decide), hfact 5 (by decide), hfact 6 (by decide), hfact 7 (by decide), e22, hfact 9 (by decide), hfact 10 (by decide), trivial⟩ rfl
        clear hsz hdf hold hfact
        clear hb HO O f22
        simp only [puts, Act.put, List.setIfInBounds_toArray, List.set_cons_zero, List.set_cons_succ]
        go_wp2
        go_roundw
        case rel => exact ⟨k + 1, z, v, by omega, by go_num, rfl, by omega, O3, B1⟩
        case measure => simp [intOf]; omega
      · by_cases hov : (nm : Int) ≤ x1
        · have g0 : decide ((0 : Int) ≤ x1) = true := by rw [decide_eq_true_eq]; omega
          have g1 : decide (x1 < (nm : Int)) = false := by rw [decide_eq_false_iff_not]; omega
          have HE : Hid (sel (headK M) (L.take k) = sel (headK M) (L.take (k + 1))) := sel_no (by have := HN.out; omega) HX.out (by unfold headK; simp only [P7.fr]; rw [← hnl, g0, g1]; rfl)
          clear hqc hnl hneg hov
          go_wp2_with fail
          refine region_owes (L := [Fact.is (.slice (some ⟨b, off, none⟩) n c),
            Fact.is (.int .i64 k),
            Fact.is (.slice (some ⟨b, off, none⟩) k c),
            Fact.is (.slice (some ⟨b, off, none⟩) n c),
            Fact.is (.int .i64 k),
            Fact.is (.pointer (some ⟨b, off + k * 7, none⟩)),
            Fact.is (.pointer (some ⟨b, off + k * 7 + 1, none⟩)),
            Fact.is (.int .i64 x1),
            Fact.pnew w.heap.size (vOf (L.take k) x1),
            Fact.is (.int .i64 cq),
            Fact.is (.int .i64 cq)])
            (T := [14, 15, 16, 17, 18, 19, 20, 21, 22, 23, 7]) (by kernel_rfl) (by kernel_rfl) rfl ?owes ?_
          case owes =>
            refine .cons (owes_move (.tmp 0) (.inl rfl) fun q u lh => ⟨wants_free rfl, lh.old 0 rfl⟩) ?_
            refine .cons (owes_move (.tmp 6) (.inl rfl) fun q u lh => ⟨wants_free rfl, lh.old 6 rfl⟩) ?_
            refine .cons (owes_value fun q u lh => ⟨wants_free rfl, .slice (some ⟨b, off, none⟩) k c, by have e14 : q.tmps.getD 14 undef = .slice (some ⟨b, off, none⟩) n c := lh.dep 0 rfl; have e15 : q.tmps.getD 15 undef = .int .i64 k := lh.dep 1 rfl; simp [execOp, Act.eval, e14, e15, i2, i3, go_sem], rfl⟩) ?_
            refine .cons (owes_move (.tmp 0) (.inl rfl) fun q u lh => ⟨wants_free rfl, lh.old 0 rfl⟩) ?_
            refine .cons (owes_move (.tmp 6) (.inl rfl) fun q u lh => ⟨wants_free rfl, lh.old 6 rfl⟩) ?_
            refine .cons (owes_value fun q u lh => ⟨wants_free rfl, .pointer (some ⟨b, off + k * 7, none⟩), by have e17 : q.tmps.getD 17 undef = .slice (some ⟨b, off, none⟩) n c := lh.dep 3 rfl; have e18 : q.tmps.getD 18 undef = .int .i64 k := lh.dep 4 rfl; simp [execOp, Act.eval, e17, e18, i1, go_sem], rfl⟩) ?_
            refine .cons (owes_value fun q u lh => ⟨wants_free rfl, .pointer (some ⟨b, off + k * 7 + 1, none⟩), by have e19 : q.tmps.getD 19 undef = .pointer (some ⟨b, off + k * 7, none⟩) := lh.dep 5 rfl; simp [execOp, Act.eval, e19, go_sem], rfl⟩) ?_
            refine .cons (owes_value fun q u lh => ⟨wants_free rfl, .int .i64 x1, by have e20 : q.tmps.getD 20 undef = .pointer (some ⟨b, off + k * 7 + 1, none⟩) := lh.dep 6 rfl; obtain ⟨z0, z1, z2, z3, z4, z5, z6⟩ := (C.out.below HB.out).below lh.below; simp [execOp, Act.eval, e20, z1, go_sem], rfl⟩) ?_
            refine .cons (owes_call 12 Try.func12 (by kernel_rfl) (by kernel_rfl) [.tmp 16, .tmp 21] #[22, 3] rfl fun q u lh => ⟨wants_free rfl, by have e16 : q.tmps.getD 16 undef = .slice (some ⟨b, off, none⟩) k c := lh.dep 2 rfl; have e21 : q.tmps.getD 21 undef = .int .i64 x1 := lh.dep 7 rfl; show Calls Try.prog 12 #[q.tmps.getD 16 undef, q.tmps.getD 21 undef] u _; rw [e16, e21]; exact pend_fact (Nat.le_trans HB.out.size lh.below.size) (O.out u (HB.out.trans (lh.below.mono HB.out.size)))⟩) ?_
            refine .cons (owes_value fun q u lh => ⟨wants_free rfl, .int .i64 cq, by obtain ⟨aa, cc, e22, -⟩ := lh.dep 8 rfl; have e22 : q.tmps.getD 22 undef = .slice aa (vOf (L.take k) x1).length cc := e22; rw [HQ.out] at e22; simp [execOp, Act.eval, e22, go_sem], rfl⟩) ?_
            refine .cons (owes_move (.tmp 23) (.inr rfl) fun q u lh => ⟨wants_free rfl, lh.dep 9 rfl⟩) ?_
            exact .nil _
          intro q u hb hsz hdf hold hfact
          obtain ⟨v22, e22⟩ : ∃ v, q.tmps.getD 22 undef = v := ⟨_, rfl⟩
          have f22 : (Fact.pnew w.heap.size (vOf (L.take k) x1)).1 u v22 := by rw [← e22]; exact hfact 8 (by decide)
          have B1 : Hid (Below w.heap.size w u) := HB.out.trans (hb.mono HB.out.size)
          obtain ⟨z0, z1, z2, z3, z4, z5, z6⟩ := C.out.below B1.out
          simp only [P7.id, P7.fr, P7.to, P7.am, P7.cl, P7.st, P7.ti] at z0 z1 z2 z3 z4 z5 z6
          have O3 : Hid (u.ownsRow w.heap.size 34 7 v z (payL (sel (headK M) (L.take (k + 1))))) := by rw [← HE.out]; exact own_below HO.out hb
          obtain rfl := frame_puts hsz hdf [14, 15, 16, 17, 18, 19, 20, 21, 22, 23, 7] hold [(14, Value.slice (some ⟨b, off, none⟩) n c), (15, Value.int .i64 k), (16, Value.slice (some ⟨b, off, none⟩) k c), (17, Value.slice (some ⟨b, off, none⟩) n c), (18, Value.int .i64 k), (19, Value.pointer (some ⟨b, off + k * 7, none⟩)), (20, Value.pointer (some ⟨b, off + k * 7 + 1, none⟩)), (21, Value.int .i64 x1), (22, v22), (23, Value.int .i64 cq), (7, Value.int .i64 cq)] ⟨hfact 0 (by decide), hfact 1 (by decide), hfact 2 (by decide), hfact 3 (by decide), hfact 4 (by decide), hfact 5 (by decide), hfact 6 (by decide), hfact 7 (by decide), e22, hfact 9 (by decide), hfact 10 (by decide), trivial⟩ rfl
          clear hsz hdf hold hfact
          clear hb HO O f22
          simp only [puts, Act.put, List.setIfInBounds_toArray, List.set_cons_zero, List.set_cons_succ]
          go_wp2
          go_roundw
          case rel => exact ⟨k + 1, z, v, by omega, by go_num, rfl, by omega, O3, B1⟩
          case measure => simp [intOf]; omega
        · obtain ⟨r, rfl⟩ : ∃ r : Nat, x1 = (r : Int) := ⟨x1.toNat, by omega⟩
          obtain ⟨bm, om, rfl, hcm⟩ := HM.out.cells_at (k := r) (by omega)
          obtain ⟨mq, hmq⟩ : ∃ mq, M.getD r 0 = mq := ⟨_, rfl⟩
          have m0 := hcm r (by omega)
          rw [hmq] at m0
          have MC : Hid (w.cell? ⟨bm, om + r, none⟩ = some (.int .i64 mq)) := m0
          clear hcm m0 HM
          by_cases hlt2 : (cq : Int) < mq
          · have g0 : decide ((0 : Int) ≤ (r : Int)) = true := by rw [decide_eq_true_eq]; omega
            have g1 : decide ((r : Int) < (nm : Int)) = true := by rw [decide_eq_true_eq]; omega
            have g2 : decide ((cq : Int) < mq) = true := by rw [decide_eq_true_eq]; omega
            have HE : Hid (sel (headK M) (L.take k) ++ [(x0, (r : Int), x2, x3, x4, x5, x6)] = sel (headK M) (L.take (k + 1))) := sel_yes (by have := HN.out; omega) HX.out (by exact headK_in hqc hmq hnl g0 g1 g2)
            have i4 : (r : Int) < (nm : Int) := by omega
            clear hqc hnl hneg hov hmq g0 g1 g2
            go_wp2_with fail
            refine region_owes (L := [Fact.is (.slice (some ⟨b, off, none⟩) n c),
              Fact.is (.int .i64 k),
              Fact.is (.slice (some ⟨b, off, none⟩) k c),
              Fact.is (.slice (some ⟨b, off, none⟩) n c),
              Fact.is (.int .i64 k),
              Fact.is (.pointer (some ⟨b, off + k * 7, none⟩)),
              Fact.is (.pointer (some ⟨b, off + k * 7 + 1, none⟩)),
              Fact.is (.int .i64 (r : Int)),
              Fact.pnew w.heap.size (vOf (L.take k) (r : Int)),
              Fact.is (.int .i64 cq),
              Fact.is (.int .i64 cq)])
              (T := [14, 15, 16, 17, 18, 19, 20, 21, 22, 23, 7]) (by kernel_rfl) (by kernel_rfl) rfl ?owes ?_
            case owes =>
              refine .cons (owes_move (.tmp 0) (.inl rfl) fun q u lh => ⟨wants_free rfl, lh.old 0 rfl⟩) ?_
              refine .cons (owes_move (.tmp 6) (.inl rfl) fun q u lh => ⟨wants_free rfl, lh.old 6 rfl⟩) ?_
              refine .cons (owes_value fun q u lh => ⟨wants_free rfl, .slice (some ⟨b, off, none⟩) k c, by have e14 : q.tmps.getD 14 undef = .slice (some ⟨b, off, none⟩) n c := lh.dep 0 rfl; have e15 : q.tmps.getD 15 undef = .int .i64 k := lh.dep 1 rfl; simp [execOp, Act.eval, e14, e15, i2, i3, go_sem], rfl⟩) ?_
              refine .cons (owes_move (.tmp 0) (.inl rfl) fun q u lh => ⟨wants_free rfl, lh.old 0 rfl⟩) ?_
              refine .cons (owes_move (.tmp 6) (.inl rfl) fun q u lh => ⟨wants_free rfl, lh.old 6 rfl⟩) ?_
              refine .cons (owes_value fun q u lh => ⟨wants_free rfl, .pointer (some ⟨b, off + k * 7, none⟩), by have e17 : q.tmps.getD 17 undef = .slice (some ⟨b, off, none⟩) n c := lh.dep 3 rfl; have e18 : q.tmps.getD 18 undef = .int .i64 k := lh.dep 4 rfl; simp [execOp, Act.eval, e17, e18, i1, go_sem], rfl⟩) ?_
              refine .cons (owes_value fun q u lh => ⟨wants_free rfl, .pointer (some ⟨b, off + k * 7 + 1, none⟩), by have e19 : q.tmps.getD 19 undef = .pointer (some ⟨b, off + k * 7, none⟩) := lh.dep 5 rfl; simp [execOp, Act.eval, e19, go_sem], rfl⟩) ?_
              refine .cons (owes_value fun q u lh => ⟨wants_free rfl, .int .i64 (r : Int), by have e20 : q.tmps.getD 20 undef = .pointer (some ⟨b, off + k * 7 + 1, none⟩) := lh.dep 6 rfl; obtain ⟨z0, z1, z2, z3, z4, z5, z6⟩ := (C.out.below HB.out).below lh.below; simp [execOp, Act.eval, e20, z1, go_sem], rfl⟩) ?_
              refine .cons (owes_call 12 Try.func12 (by kernel_rfl) (by kernel_rfl) [.tmp 16, .tmp 21] #[22, 3] rfl fun q u lh => ⟨wants_free rfl, by have e16 : q.tmps.getD 16 undef = .slice (some ⟨b, off, none⟩) k c := lh.dep 2 rfl; have e21 : q.tmps.getD 21 undef = .int .i64 (r : Int) := lh.dep 7 rfl; show Calls Try.prog 12 #[q.tmps.getD 16 undef, q.tmps.getD 21 undef] u _; rw [e16, e21]; exact pend_fact (Nat.le_trans HB.out.size lh.below.size) (O.out u (HB.out.trans (lh.below.mono HB.out.size)))⟩) ?_
              refine .cons (owes_value fun q u lh => ⟨wants_free rfl, .int .i64 cq, by obtain ⟨aa, cc, e22, -⟩ := lh.dep 8 rfl; have e22 : q.tmps.getD 22 undef = .slice aa (vOf (L.take k) (r : Int)).length cc := e22; rw [HQ.out] at e22; simp [execOp, Act.eval, e22, go_sem], rfl⟩) ?_
              refine .cons (owes_move (.tmp 23) (.inr rfl) fun q u lh => ⟨wants_free rfl, lh.dep 9 rfl⟩) ?_
              exact .nil _
            intro q u hb hsz hdf hold hfact
            obtain ⟨v22, e22⟩ : ∃ v, q.tmps.getD 22 undef = v := ⟨_, rfl⟩
            have f22 : (Fact.pnew w.heap.size (vOf (L.take k) (r : Int))).1 u v22 := by rw [← e22]; exact hfact 8 (by decide)
            have B1 : Hid (Below w.heap.size w u) := HB.out.trans (hb.mono HB.out.size)
            obtain ⟨z0, z1, z2, z3, z4, z5, z6⟩ := C.out.below B1.out
            simp only [P7.id, P7.fr, P7.to, P7.am, P7.cl, P7.st, P7.ti] at z0 z1 z2 z3 z4 z5 z6
            have m1 := (B1.out.cell (p := ⟨bm, om + r, none⟩) (block_lt_of_cell MC.out)).trans MC.out
            have O1 : Hid (u.ownsRow w.heap.size 34 7 v z (payL (sel (headK M) (L.take k)))) := own_below HO.out hb
            obtain rfl := frame_puts hsz hdf [14, 15, 16, 17, 18, 19, 20, 21, 22, 23, 7] hold [(14, Value.slice (some ⟨b, off, none⟩) n c), (15, Value.int .i64 k), (16, Value.slice (some ⟨b, off, none⟩) k c), (17, Value.slice (some ⟨b, off, none⟩) n c), (18, Value.int .i64 k), (19, Value.pointer (some ⟨b, off + k * 7, none⟩)), (20, Value.pointer (some ⟨b, off + k * 7 + 1, none⟩)), (21, Value.int .i64 (r : Int)), (22, v22), (23, Value.int .i64 cq), (7, Value.int .i64 cq)] ⟨hfact 0 (by decide), hfact 1 (by decide), hfact 2 (by decide), hfact 3 (by decide), hfact 4 (by decide), hfact 5 (by decide), hfact 6 (by decide), hfact 7 (by decide), e22, hfact 9 (by decide), hfact 10 (by decide), trivial⟩ rfl
            clear hsz hdf hold hfact
            clear hb HO O f22
            simp only [puts, Act.put, List.setIfInBounds_toArray, List.set_cons_zero, List.set_cons_succ]
            go_wp2_with (at_builtin; refine wpList_append_pays rfl _ _ rfl w.heap.size v z _ rfl (own_below O1.out (box_below _ _)) (some ⟨u.heap.size, 0, none⟩) 1 1 [(x0, (r : Int), x2, x3, x4, x5, x6)] rfl (PGood.lit1 u (x0, (r : Int), x2, x3, x4, x5, x6)) (by omega) (by rw [size_alloc]; have := B1.out.size; omega) ?_)
            intro v3 w3 ho3 hg3
            have O3 : Hid (w3.ownsRow w.heap.size 34 7 v3 (z + 1) (payL (sel (headK M) (L.take (k + 1))))) := by rw [← HE.out]; exact ho3
            have B3 : Hid (Below w.heap.size w w3) := (B1.out.alloc B1.out.size _).grown hg3 (by rw [size_alloc]; have := B1.out.size; omega) (fun j hj => (O1.out.lt j hj).1)
            clear ho3 hg3 O1 B1
            go_wp2
            go_roundw
            case rel => exact ⟨k + 1, z + 1, v3, by omega, by go_num, rfl, by omega, O3, B3⟩
            case measure => simp [intOf]; omega
          · have g0 : decide ((0 : Int) ≤ (r : Int)) = true := by rw [decide_eq_true_eq]; omega
            have g1 : decide ((r : Int) < (nm : Int)) = true := by rw [decide_eq_true_eq]; omega
            have g2 : decide ((cq : Int) < mq) = false := by rw [decide_eq_false_iff_not]; omega
            have HE : Hid (sel (headK M) (L.take k) = sel (headK M) (L.take (k + 1))) := sel_no (by have := HN.out; omega) HX.out (by exact headK_in hqc hmq hnl g0 g1 g2)
            have i4 : (r : Int) < (nm : Int) := by omega
            clear hqc hnl hneg hov hmq hlt2 g0 g1
            go_wp2_with fail
            refine region_owes (L := [Fact.is (.slice (some ⟨b, off, none⟩) n c),
              Fact.is (.int .i64 k),
              Fact.is (.slice (some ⟨b, off, none⟩) k c),
              Fact.is (.slice (some ⟨b, off, none⟩) n c),
              Fact.is (.int .i64 k),
              Fact.is (.pointer (some ⟨b, off + k * 7, none⟩)),
              Fact.is (.pointer (some ⟨b, off + k * 7 + 1, none⟩)),
              Fact.is (.int .i64 (r : Int)),
              Fact.pnew w.heap.size (vOf (L.take k) (r : Int)),
              Fact.is (.int .i64 cq),
              Fact.is (.int .i64 cq)])
              (T := [14, 15, 16, 17, 18, 19, 20, 21, 22, 23, 7]) (by kernel_rfl) (by kernel_rfl) rfl ?owes ?_
            case owes =>
              refine .cons (owes_move (.tmp 0) (.inl rfl) fun q u lh => ⟨wants_free rfl, lh.old 0 rfl⟩) ?_
              refine .cons (owes_move (.tmp 6) (.inl rfl) fun q u lh => ⟨wants_free rfl, lh.old 6 rfl⟩) ?_
              refine .cons (owes_value fun q u lh => ⟨wants_free rfl, .slice (some ⟨b, off, none⟩) k c, by have e14 : q.tmps.getD 14 undef = .slice (some ⟨b, off, none⟩) n c := lh.dep 0 rfl; have e15 : q.tmps.getD 15 undef = .int .i64 k := lh.dep 1 rfl; simp [execOp, Act.eval, e14, e15, i2, i3, go_sem], rfl⟩) ?_
              refine .cons (owes_move (.tmp 0) (.inl rfl) fun q u lh => ⟨wants_free rfl, lh.old 0 rfl⟩) ?_
              refine .cons (owes_move (.tmp 6) (.inl rfl) fun q u lh => ⟨wants_free rfl, lh.old 6 rfl⟩) ?_
              refine .cons (owes_value fun q u lh => ⟨wants_free rfl, .pointer (some ⟨b, off + k * 7, none⟩), by have e17 : q.tmps.getD 17 undef = .slice (some ⟨b, off, none⟩) n c := lh.dep 3 rfl; have e18 : q.tmps.getD 18 undef = .int .i64 k := lh.dep 4 rfl; simp [execOp, Act.eval, e17, e18, i1, go_sem], rfl⟩) ?_
              refine .cons (owes_value fun q u lh => ⟨wants_free rfl, .pointer (some ⟨b, off + k * 7 + 1, none⟩), by have e19 : q.tmps.getD 19 undef = .pointer (some ⟨b, off + k * 7, none⟩) := lh.dep 5 rfl; simp [execOp, Act.eval, e19, go_sem], rfl⟩) ?_
              refine .cons (owes_value fun q u lh => ⟨wants_free rfl, .int .i64 (r : Int), by have e20 : q.tmps.getD 20 undef = .pointer (some ⟨b, off + k * 7 + 1, none⟩) := lh.dep 6 rfl; obtain ⟨z0, z1, z2, z3, z4, z5, z6⟩ := (C.out.below HB.out).below lh.below; simp [execOp, Act.eval, e20, z1, go_sem], rfl⟩) ?_
              refine .cons (owes_call 12 Try.func12 (by kernel_rfl) (by kernel_rfl) [.tmp 16, .tmp 21] #[22, 3] rfl fun q u lh => ⟨wants_free rfl, by have e16 : q.tmps.getD 16 undef = .slice (some ⟨b, off, none⟩) k c := lh.dep 2 rfl; have e21 : q.tmps.getD 21 undef = .int .i64 (r : Int) := lh.dep 7 rfl; show Calls Try.prog 12 #[q.tmps.getD 16 undef, q.tmps.getD 21 undef] u _; rw [e16, e21]; exact pend_fact (Nat.le_trans HB.out.size lh.below.size) (O.out u (HB.out.trans (lh.below.mono HB.out.size)))⟩) ?_
              refine .cons (owes_value fun q u lh => ⟨wants_free rfl, .int .i64 cq, by obtain ⟨aa, cc, e22, -⟩ := lh.dep 8 rfl; have e22 : q.tmps.getD 22 undef = .slice aa (vOf (L.take k) (r : Int)).length cc := e22; rw [HQ.out] at e22; simp [execOp, Act.eval, e22, go_sem], rfl⟩) ?_
              refine .cons (owes_move (.tmp 23) (.inr rfl) fun q u lh => ⟨wants_free rfl, lh.dep 9 rfl⟩) ?_
              exact .nil _
            intro q u hb hsz hdf hold hfact
            obtain ⟨v22, e22⟩ : ∃ v, q.tmps.getD 22 undef = v := ⟨_, rfl⟩
            have f22 : (Fact.pnew w.heap.size (vOf (L.take k) (r : Int))).1 u v22 := by rw [← e22]; exact hfact 8 (by decide)
            have B1 : Hid (Below w.heap.size w u) := HB.out.trans (hb.mono HB.out.size)
            obtain ⟨z0, z1, z2, z3, z4, z5, z6⟩ := C.out.below B1.out
            simp only [P7.id, P7.fr, P7.to, P7.am, P7.cl, P7.st, P7.ti] at z0 z1 z2 z3 z4 z5 z6
            have m1 := (B1.out.cell (p := ⟨bm, om + r, none⟩) (block_lt_of_cell MC.out)).trans MC.out
            have O3 : Hid (u.ownsRow w.heap.size 34 7 v z (payL (sel (headK M) (L.take (k + 1))))) := by rw [← HE.out]; exact own_below HO.out hb
            obtain rfl := frame_puts hsz hdf [14, 15, 16, 17, 18, 19, 20, 21, 22, 23, 7] hold [(14, Value.slice (some ⟨b, off, none⟩) n c), (15, Value.int .i64 k), (16, Value.slice (some ⟨b, off, none⟩) k c), (17, Value.slice (some ⟨b, off, none⟩) n c), (18, Value.int .i64 k), (19, Value.pointer (some ⟨b, off + k * 7, none⟩)), (20, Value.pointer (some ⟨b, off + k * 7 + 1, none⟩)), (21, Value.int .i64 (r : Int)), (22, v22), (23, Value.int .i64 cq), (7, Value.int .i64 cq)] ⟨hfact 0 (by decide), hfact 1 (by decide), hfact 2 (by decide), hfact 3 (by decide), hfact 4 (by decide), hfact 5 (by decide), hfact 6 (by decide), hfact 7 (by decide), e22, hfact 9 (by decide), hfact 10 (by decide), trivial⟩ rfl
            clear hsz hdf hold hfact
            clear hb HO O f22
            simp only [puts, Act.put, List.setIfInBounds_toArray, List.set_cons_zero, List.set_cons_succ]
            go_wp2
            go_roundw
            case rel => exact ⟨k + 1, z, v, by omega, by go_num, rfl, by omega, O3, B1⟩
            case measure => simp [intOf]; omega
    · obtain rfl : k = n := by omega
      have HF : Hid (sel (headK M) (L.take k) = vHeads L M) := sel_all HN.out
      clear H HM
      go_wp2
      go_ret
      have := HO.out
      rw [HF.out] at this
      obtain ⟨a2, c2, hv, g, hnew⟩ := PGood.own this
      subst hv
      exact ⟨a2, c2, rfl, g, hnew, HB.out⟩

end Go.Proofs.Ytmfmdicdbjghkaa
