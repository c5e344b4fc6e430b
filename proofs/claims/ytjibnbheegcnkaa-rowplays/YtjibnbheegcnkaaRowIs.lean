/-
  row.Is.
-/
import Derived.Test.YtjibnbheegcnkaaRowPut
namespace Go.Proofs.Ytjibnbheegcnkaa
open Go.RowKit
set_option linter.unusedVariables false
set_option linter.unusedSimpArgs false

theorem qIs_long {L : List P7} (h : 40 < L.length) : false = qIs L := by
  symm
  apply qIs_no
  intro hq
  have := hq.1
  omega
theorem qIs_bad {L : List P7} (h : ¬ L.Pairwise QR) : false = qIs L := by
  symm
  apply qIs_no
  intro hq
  exact h hq.2
theorem qIs_all {L : List P7} {k : Nat} (hk : k = L.length) (h : (L.take k).Pairwise QR) (h4 : L.length ≤ 40) : true = qIs L := by
  rw [hk, List.take_length] at h
  exact (qIs_iff.2 ⟨h4, h⟩).symm

theorem is_long (a : Option Addr) (n c : Nat) (w : World) (h : 40 < n) : Calls Try.prog 21 #[.slice a n c] w fun e w' => e = .returned (.bool false) ∧ w' = w := by
  have h0 : (40 : Int) < (n : Int) := by omega
  go_enter Try.func21, Try.ntmps21
  go_wp2
  go_ret
  exact ⟨rfl, rfl⟩
theorem is_none (a : Option Addr) (c : Nat) (w : World) : Calls Try.prog 21 #[.slice a 0 c] w fun e w' => e = .returned (.bool true) ∧ w' = w := by
  go_enter Try.func21, Try.ntmps21
  go_wp2
  refine wp_loop_rounds 1 ?_
  rw [rounds_succ]
  go_wp2
  go_ret
  exact ⟨rfl, rfl⟩

set_option maxHeartbeats 4000000 in
set_option maxRecDepth 100000 in
theorem is_row (b off n c : Nat) (L : List P7) (w : World) (hn : n = L.length) (h4 : n ≤ 40) (hcap : n ≤ c) (hmax : c ≤ 9223372036854775807) (hc : ∀ i, i < n → At7 w b (off + i * 7) (L.getD i p70)) :
    Calls Try.prog 21 #[.slice (some ⟨b, off, none⟩) n c] w fun e w' => e = .returned (.bool (qIs L)) ∧ Below w.heap.size w w' := by
  have HC : Hid (∀ i, i < n → At7 w b (off + i * 7) (L.getD i p70)) := hc
  have HN : Hid (n = L.length) := hn
  have HP : Hid (Pays w (some ⟨b, off, none⟩) n L) := ⟨hn, .inr ⟨b, off, rfl, fun i hi => hc i (by omega)⟩⟩
  have h40 : (n : Int) ≤ 40 := by omega
  have c0 : (n : Int) ≤ (c : Int) := by omega
  clear hc hn
  go_enter Try.func21, Try.ntmps21
  go_wp2
  go_loopw [10] (fun i wr => ∃ k : Nat, k ≤ n ∧ i = .int .i64 k ∧ Hid ((L.take k).Pairwise QR) ∧ Hid (Below w.heap.size w wr)) (fun i _ => n - (intOf i).toNat)
  case atStart => exact ⟨0, by omega, rfl, by simp [Hid], Below.refl _ _⟩
  case round =>
    obtain ⟨k, hk, rfl, HQ, HB⟩ := hrel
    by_cases hlt : k < n
    · have i1 : (k : Int) < (n : Int) := by omega
      have i2 : (k : Int) ≤ (c : Int) := by omega
      have i0 : (0 : Int) ≤ (k : Int) := by omega
      have HK : Hid (k < L.length) := by have := HN.out; show k < L.length; omega
      obtain ⟨p0, p1, p2, p3, p4, p5, p6⟩ := (HC.out k hlt).below HB.out
      obtain ⟨x, hx⟩ : ∃ x, L.getD k p70 = x := ⟨_, rfl⟩
      rw [hx] at p0 p1 p2 p3 p4 p5 p6
      have HX : Hid (L.getD k p70 = x) := hx
      clear hx
      obtain ⟨x0, x1, x2, x3, x4, x5, x6⟩ := x
      simp only [P7.id, P7.fr, P7.to, P7.am, P7.cl, P7.st, P7.ti] at p0 p1 p2 p3 p4 p5 p6
      have HF : Hid (∀ u, Below w.heap.size w u → Pays u (some ⟨b, off, none⟩) k (L.take k)) := fun u hb => by
        have g : PGood u (some ⟨b, off, none⟩) n c L := ⟨HP.out.below hb, hcap, hmax, fun h => by cases h⟩
        exact (g.take k hk).pays
      have F0 := fun u hb => find_any (some ⟨b, off, none⟩) k c x0 (L.take k) u (by omega) (HF.out u hb)
      have rd := qFind_nn (L.take k) x0
      obtain ⟨r, hr⟩ : ∃ r, qFind (L.take k) x0 = r := ⟨_, rfl⟩
      simp only [hr] at F0
      rw [hr] at rd
      have F : Hid (∀ u, Below w.heap.size w u → Calls Try.prog 18 #[.slice (some ⟨b, off, none⟩) k c, .int .i64 x0] u fun e w' => e = .returned (.int .i64 r) ∧ Below u.heap.size u w') := F0
      obtain ⟨w2, hw2⟩ : ∃ w2, w2 = wr.alloc (.cells #[.int .i64 x0, .int .i64 x1, .int .i64 x2, .int .i64 x3, .int .i64 x4, .int .i64 x5, .int .i64 x6] 25) := ⟨_, rfl⟩
      have B2 : Hid (Below w.heap.size w w2) := by rw [hw2]; exact HB.out.alloc HB.out.size _
      have X2 : Hid (At7 w2 wr.heap.size 0 (x0, x1, x2, x3, x4, x5, x6)) := by rw [hw2]; exact At7.new wr (x0, x1, x2, x3, x4, x5, x6) _ _
      have HW : Hid (w2 = _) := hw2
      clear hr F0 hw2
      cases hd : qHas (L.take k) x0 with
      | true =>
        have HS : Hid (false = qIs L) := qIs_bad (pw_no_id HK.out (by rw [HX.out]; exact hd))
        rw [hd] at rd
        have RD : decide (0 ≤ r) = true := rd
        clear rd hd
        go_wp2_with fail
        rw [← HW.out]
        clear HW p0 p1 p2 p3 p4 p5 p6
        refine region_owes (L := [Fact.is (.slice (some ⟨b, off, none⟩) n c),
          Fact.is (.int .i64 k),
          Fact.is (.slice (some ⟨b, off, none⟩) k c),
          Fact.is (.pointer (some ⟨wr.heap.size, 0, none⟩)),
          Fact.is (.int .i64 x0),
          Fact.is (.int .i64 r),
          Fact.is (.bool true)])
          (T := [15, 16, 17, 18, 19, 20, 21]) (by kernel_rfl) (by kernel_rfl) rfl ?owes ?_
        case owes =>
          refine .cons (owes_move (.tmp 0) (.inl rfl) fun q u lh => ⟨wants_free rfl, lh.old 0 rfl⟩) ?_
          refine .cons (owes_move (.tmp 3) (.inl rfl) fun q u lh => ⟨wants_free rfl, lh.old 3 rfl⟩) ?_
          refine .cons (owes_value fun q u lh => ⟨wants_free rfl, .slice (some ⟨b, off, none⟩) k c, by have e15 : q.tmps.getD 15 undef = .slice (some ⟨b, off, none⟩) n c := lh.dep 0 rfl; have e16 : q.tmps.getD 16 undef = .int .i64 k := lh.dep 1 rfl; have z1 : k ≤ c := (by omega); have z2 : ¬ c < k := (by omega); simp [execOp, Act.eval, e15, e16, z1, z2, go_sem], rfl⟩) ?_
          refine .cons (owes_value fun q u lh => ⟨wants_free rfl, .pointer (some ⟨wr.heap.size, 0, none⟩), by have e4 : q.tmps.getD 4 undef = .pointer (some ⟨wr.heap.size, 0, none⟩) := lh.old 4 rfl; simp [execOp, Act.eval, e4, go_sem], rfl⟩) ?_
          refine .cons (owes_value fun q u lh => ⟨wants_free rfl, .int .i64 x0, by have e18 : q.tmps.getD 18 undef = .pointer (some ⟨wr.heap.size, 0, none⟩) := lh.dep 3 rfl; obtain ⟨z0, z1, z2, z3, z4, z5, z6⟩ := X2.out.below lh.below; simp [execOp, Act.eval, e18, z0, go_sem], rfl⟩) ?_
          refine .cons (owes_call 18 Try.func18 (by kernel_rfl) (by kernel_rfl) [.tmp 17, .tmp 19] #[23, 2] rfl fun q u lh => ⟨wants_free rfl, by have e17 : q.tmps.getD 17 undef = .slice (some ⟨b, off, none⟩) k c := lh.dep 2 rfl; have e19 : q.tmps.getD 19 undef = .int .i64 x0 := lh.dep 4 rfl; show Calls Try.prog 18 #[q.tmps.getD 17 undef, q.tmps.getD 19 undef] u _; rw [e17, e19]; exact int_fact (F.out u (B2.out.trans (lh.below.mono B2.out.size)))⟩) ?_
          refine .cons (owes_value fun q u lh => ⟨wants_free rfl, .bool true, by have e20 : q.tmps.getD 20 undef = .int .i64 r := lh.dep 5 rfl; simp [execOp, Act.eval, e20, RD, go_sem], rfl⟩) ?_
          exact .nil _
        intro q u hb hsz hdf hold hfact
        obtain rfl := frame_puts hsz hdf [15, 16, 17, 18, 19, 20, 21] hold [(15, Value.slice (some ⟨b, off, none⟩) n c), (16, Value.int .i64 k), (17, Value.slice (some ⟨b, off, none⟩) k c), (18, Value.pointer (some ⟨wr.heap.size, 0, none⟩)), (19, Value.int .i64 x0), (20, Value.int .i64 r), (21, Value.bool true)] ⟨hfact 0 (by decide), hfact 1 (by decide), hfact 2 (by decide), hfact 3 (by decide), hfact 4 (by decide), hfact 5 (by decide), hfact 6 (by decide), trivial⟩ rfl
        clear hsz hdf hold hfact
        have B6 : Hid (Below w.heap.size w u) := B2.out.trans (hb.mono B2.out.size)
        have X6 : Hid (At7 u wr.heap.size 0 (x0, x1, x2, x3, x4, x5, x6)) := X2.out.below hb
        obtain ⟨u6, rfl⟩ : ∃ z, z = u := ⟨u, rfl⟩
        clear hb X2 B2
        simp only [puts, Act.put, List.setIfInBounds_toArray, List.set_cons_zero, List.set_cons_succ]
        go_wp2
        go_ret
        exact ⟨rt_bool HS.out, B6.out⟩
      | false =>
        have HD : Hid (qHas (L.take k) (L.getD k p70).id = false) := by rw [HX.out]; exact hd
        rw [hd] at rd
        have RD : decide (0 ≤ r) = false := rd
        clear rd hd
        by_cases hk0 : k = 0
        · have HS : Hid ((L.take (k + 1)).Pairwise QR) := pw_step HK.out HQ.out HD.out (fun h => by omega)
          have kd : decide (0 < k) = false := by simp [hk0]
          clear hk0
          go_wp2_with fail
          rw [← HW.out]
          clear HW p0 p1 p2 p3 p4 p5 p6
          refine region_owes (L := [Fact.is (.slice (some ⟨b, off, none⟩) n c),
            Fact.is (.int .i64 k),
            Fact.is (.slice (some ⟨b, off, none⟩) k c),
            Fact.is (.pointer (some ⟨wr.heap.size, 0, none⟩)),
            Fact.is (.int .i64 x0),
            Fact.is (.int .i64 r),
            Fact.is (.bool false)])
            (T := [15, 16, 17, 18, 19, 20, 21]) (by kernel_rfl) (by kernel_rfl) rfl ?owes ?_
          case owes =>
            refine .cons (owes_move (.tmp 0) (.inl rfl) fun q u lh => ⟨wants_free rfl, lh.old 0 rfl⟩) ?_
            refine .cons (owes_move (.tmp 3) (.inl rfl) fun q u lh => ⟨wants_free rfl, lh.old 3 rfl⟩) ?_
            refine .cons (owes_value fun q u lh => ⟨wants_free rfl, .slice (some ⟨b, off, none⟩) k c, by have e15 : q.tmps.getD 15 undef = .slice (some ⟨b, off, none⟩) n c := lh.dep 0 rfl; have e16 : q.tmps.getD 16 undef = .int .i64 k := lh.dep 1 rfl; have z1 : k ≤ c := (by omega); have z2 : ¬ c < k := (by omega); simp [execOp, Act.eval, e15, e16, z1, z2, go_sem], rfl⟩) ?_
            refine .cons (owes_value fun q u lh => ⟨wants_free rfl, .pointer (some ⟨wr.heap.size, 0, none⟩), by have e4 : q.tmps.getD 4 undef = .pointer (some ⟨wr.heap.size, 0, none⟩) := lh.old 4 rfl; simp [execOp, Act.eval, e4, go_sem], rfl⟩) ?_
            refine .cons (owes_value fun q u lh => ⟨wants_free rfl, .int .i64 x0, by have e18 : q.tmps.getD 18 undef = .pointer (some ⟨wr.heap.size, 0, none⟩) := lh.dep 3 rfl; obtain ⟨z0, z1, z2, z3, z4, z5, z6⟩ := X2.out.below lh.below; simp [execOp, Act.eval, e18, z0, go_sem], rfl⟩) ?_
            refine .cons (owes_call 18 Try.func18 (by kernel_rfl) (by kernel_rfl) [.tmp 17, .tmp 19] #[23, 2] rfl fun q u lh => ⟨wants_free rfl, by have e17 : q.tmps.getD 17 undef = .slice (some ⟨b, off, none⟩) k c := lh.dep 2 rfl; have e19 : q.tmps.getD 19 undef = .int .i64 x0 := lh.dep 4 rfl; show Calls Try.prog 18 #[q.tmps.getD 17 undef, q.tmps.getD 19 undef] u _; rw [e17, e19]; exact int_fact (F.out u (B2.out.trans (lh.below.mono B2.out.size)))⟩) ?_
            refine .cons (owes_value fun q u lh => ⟨wants_free rfl, .bool false, by have e20 : q.tmps.getD 20 undef = .int .i64 r := lh.dep 5 rfl; simp [execOp, Act.eval, e20, RD, go_sem], rfl⟩) ?_
            exact .nil _
          intro q u hb hsz hdf hold hfact
          obtain rfl := frame_puts hsz hdf [15, 16, 17, 18, 19, 20, 21] hold [(15, Value.slice (some ⟨b, off, none⟩) n c), (16, Value.int .i64 k), (17, Value.slice (some ⟨b, off, none⟩) k c), (18, Value.pointer (some ⟨wr.heap.size, 0, none⟩)), (19, Value.int .i64 x0), (20, Value.int .i64 r), (21, Value.bool false)] ⟨hfact 0 (by decide), hfact 1 (by decide), hfact 2 (by decide), hfact 3 (by decide), hfact 4 (by decide), hfact 5 (by decide), hfact 6 (by decide), trivial⟩ rfl
          clear hsz hdf hold hfact
          have B6 : Hid (Below w.heap.size w u) := B2.out.trans (hb.mono B2.out.size)
          have X6 : Hid (At7 u wr.heap.size 0 (x0, x1, x2, x3, x4, x5, x6)) := X2.out.below hb
          obtain ⟨u6, rfl⟩ : ∃ z, z = u := ⟨u, rfl⟩
          clear hb X2 B2
          simp only [puts, Act.put, List.setIfInBounds_toArray, List.set_cons_zero, List.set_cons_succ]
          go_wp2
          go_quiet (fail)
          go_wp2
          go_roundw
          case rel => exact ⟨k + 1, by omega, by go_num, HS.out, B6.out.trans ((drawn_below _ _).mono B6.out.size)⟩
          case measure => simp [intOf]; omega
        · have kn : 0 < k := by omega
          obtain ⟨m, hm⟩ : ∃ m, m + 1 = k := ⟨k - 1, by omega⟩
          have KM : Hid ((k : Int) - 1 = m) := by show (k : Int) - 1 = m; omega
          have mp : (m : Int) < (n : Int) := by omega
          have Y0 := HC.out m (by omega)
          obtain ⟨y, hy⟩ : ∃ y, L.getD m p70 = y := ⟨_, rfl⟩
          rw [hy] at Y0
          have HY : Hid (L.getD (k - 1) p70 = y) := by show _ = _; rw [show k - 1 = m by omega]; exact hy
          obtain ⟨y0, y1, y2, y3, y4, y5, y6⟩ := y
          have Y : Hid (At7 w b (off + m * 7) (y0, y1, y2, y3, y4, y5, y6)) := Y0
          have HM : Hid (m + 1 = k) := hm
          have O0 := fun u => order_any (y0, y1, y2, y3, y4, y5, y6) (x0, x1, x2, x3, x4, x5, x6) u
          have sb := qOrd_pos (y0, y1, y2, y3, y4, y5, y6) (x0, x1, x2, x3, x4, x5, x6)
          obtain ⟨s, hs⟩ : ∃ s, qOrd (y0, y1, y2, y3, y4, y5, y6) (x0, x1, x2, x3, x4, x5, x6) = s := ⟨_, rfl⟩
          simp only [hs] at O0
          rw [hs] at sb
          have O : Hid (∀ u, Calls Try.prog 34 #[P7.val (y0, y1, y2, y3, y4, y5, y6), P7.val (x0, x1, x2, x3, x4, x5, x6)] u fun e w' => e = .returned (.int .i64 s) ∧ Below u.heap.size u w') := O0
          clear hs O0 hy Y0 hm hk0
          cases hle : qLe (y0, y1, y2, y3, y4, y5, y6) (x0, x1, x2, x3, x4, x5, x6) with
          | true =>
            have HS : Hid ((L.take (k + 1)).Pairwise QR) := pw_step HK.out HQ.out HD.out (fun h => by rw [HY.out, HX.out]; exact hle)
            rw [hle] at sb
            have SB : decide (0 < s) = false := sb
            clear sb hle
            go_wp2_with fail
            rw [← HW.out]
            clear HW p0 p1 p2 p3 p4 p5 p6
            refine region_owes (L := [Fact.is (.slice (some ⟨b, off, none⟩) n c),
              Fact.is (.int .i64 k),
              Fact.is (.slice (some ⟨b, off, none⟩) k c),
              Fact.is (.pointer (some ⟨wr.heap.size, 0, none⟩)),
              Fact.is (.int .i64 x0),
              Fact.is (.int .i64 r),
              Fact.is (.bool false)])
              (T := [15, 16, 17, 18, 19, 20, 21]) (by kernel_rfl) (by kernel_rfl) rfl ?owes ?_
            case owes =>
              refine .cons (owes_move (.tmp 0) (.inl rfl) fun q u lh => ⟨wants_free rfl, lh.old 0 rfl⟩) ?_
              refine .cons (owes_move (.tmp 3) (.inl rfl) fun q u lh => ⟨wants_free rfl, lh.old 3 rfl⟩) ?_
              refine .cons (owes_value fun q u lh => ⟨wants_free rfl, .slice (some ⟨b, off, none⟩) k c, by have e15 : q.tmps.getD 15 undef = .slice (some ⟨b, off, none⟩) n c := lh.dep 0 rfl; have e16 : q.tmps.getD 16 undef = .int .i64 k := lh.dep 1 rfl; have z1 : k ≤ c := (by omega); have z2 : ¬ c < k := (by omega); simp [execOp, Act.eval, e15, e16, z1, z2, go_sem], rfl⟩) ?_
              refine .cons (owes_value fun q u lh => ⟨wants_free rfl, .pointer (some ⟨wr.heap.size, 0, none⟩), by have e4 : q.tmps.getD 4 undef = .pointer (some ⟨wr.heap.size, 0, none⟩) := lh.old 4 rfl; simp [execOp, Act.eval, e4, go_sem], rfl⟩) ?_
              refine .cons (owes_value fun q u lh => ⟨wants_free rfl, .int .i64 x0, by have e18 : q.tmps.getD 18 undef = .pointer (some ⟨wr.heap.size, 0, none⟩) := lh.dep 3 rfl; obtain ⟨z0, z1, z2, z3, z4, z5, z6⟩ := X2.out.below lh.below; simp [execOp, Act.eval, e18, z0, go_sem], rfl⟩) ?_
              refine .cons (owes_call 18 Try.func18 (by kernel_rfl) (by kernel_rfl) [.tmp 17, .tmp 19] #[23, 2] rfl fun q u lh => ⟨wants_free rfl, by have e17 : q.tmps.getD 17 undef = .slice (some ⟨b, off, none⟩) k c := lh.dep 2 rfl; have e19 : q.tmps.getD 19 undef = .int .i64 x0 := lh.dep 4 rfl; show Calls Try.prog 18 #[q.tmps.getD 17 undef, q.tmps.getD 19 undef] u _; rw [e17, e19]; exact int_fact (F.out u (B2.out.trans (lh.below.mono B2.out.size)))⟩) ?_
              refine .cons (owes_value fun q u lh => ⟨wants_free rfl, .bool false, by have e20 : q.tmps.getD 20 undef = .int .i64 r := lh.dep 5 rfl; simp [execOp, Act.eval, e20, RD, go_sem], rfl⟩) ?_
              exact .nil _
            intro q u hb hsz hdf hold hfact
            obtain rfl := frame_puts hsz hdf [15, 16, 17, 18, 19, 20, 21] hold [(15, Value.slice (some ⟨b, off, none⟩) n c), (16, Value.int .i64 k), (17, Value.slice (some ⟨b, off, none⟩) k c), (18, Value.pointer (some ⟨wr.heap.size, 0, none⟩)), (19, Value.int .i64 x0), (20, Value.int .i64 r), (21, Value.bool false)] ⟨hfact 0 (by decide), hfact 1 (by decide), hfact 2 (by decide), hfact 3 (by decide), hfact 4 (by decide), hfact 5 (by decide), hfact 6 (by decide), trivial⟩ rfl
            clear hsz hdf hold hfact
            have B6 : Hid (Below w.heap.size w u) := B2.out.trans (hb.mono B2.out.size)
            have X6 : Hid (At7 u wr.heap.size 0 (x0, x1, x2, x3, x4, x5, x6)) := X2.out.below hb
            obtain ⟨u6, rfl⟩ : ∃ z, z = u := ⟨u, rfl⟩
            clear hb X2 B2
            simp only [puts, Act.put, List.setIfInBounds_toArray, List.set_cons_zero, List.set_cons_succ]
            go_wp2_with fail
            refine region_owes (L := [Fact.is (.int .i64 k),
              Fact.is (.bool true),
              Fact.is (.bool true),
              Fact.is (.slice (some ⟨b, off, none⟩) n c),
              Fact.is (.int .i64 k),
              Fact.is (.int .i64 m),
              Fact.is (.pointer (some ⟨b, off + m * 7, none⟩)),
              Fact.is (.agg #[.int .i64 y0, .int .i64 y1, .int .i64 y2, .int .i64 y3, .int .i64 y4, .int .i64 y5, .int .i64 y6]),
              Fact.is (.agg #[.int .i64 x0, .int .i64 x1, .int .i64 x2, .int .i64 x3, .int .i64 x4, .int .i64 x5, .int .i64 x6]),
              Fact.is (.int .i64 s),
              Fact.is (.bool false),
              Fact.is (.bool false)])
              (T := [22, 23, 24, 25, 26, 27, 28, 29, 30, 31, 32, 33]) (by kernel_rfl) (by kernel_rfl) rfl ?owes ?_
            case owes =>
              refine .cons (owes_move (.tmp 3) (.inl rfl) fun q u lh => ⟨wants_free rfl, lh.old 3 rfl⟩) ?_
              refine .cons (owes_value fun q u lh => ⟨wants_free rfl, .bool true, by have e22 : q.tmps.getD 22 undef = .int .i64 k := lh.dep 0 rfl; simp [execOp, Act.eval, e22, kn, go_sem], rfl⟩) ?_
              refine .cons (owes_move (.tmp 23) (.inl rfl) fun q u lh => ⟨wants_free rfl, lh.dep 1 rfl⟩) ?_
              refine .cons (owes_move (.tmp 0) (.inl rfl) fun q u lh => ⟨lh.wants1 2 true rfl rfl rfl, lh.old 0 rfl⟩) ?_
              refine .cons (owes_move (.tmp 3) (.inl rfl) fun q u lh => ⟨lh.wants1 2 true rfl rfl rfl, lh.old 3 rfl⟩) ?_
              refine .cons (owes_value fun q u lh => ⟨lh.wants1 2 true rfl rfl rfl, .int .i64 m, by have e26 : q.tmps.getD 26 undef = .int .i64 k := lh.dep 4 rfl; have z1 : IntKind.i64.wrap ((k : Int) - 1) = m := (by rw [KM.out]; exact i64_wf (by omega) (by omega)); simp [execOp, Act.eval, e26, z1, go_sem], rfl⟩) ?_
              refine .cons (owes_value fun q u lh => ⟨lh.wants1 2 true rfl rfl rfl, .pointer (some ⟨b, off + m * 7, none⟩), by have e25 : q.tmps.getD 25 undef = .slice (some ⟨b, off, none⟩) n c := lh.dep 3 rfl; have e27 : q.tmps.getD 27 undef = .int .i64 m := lh.dep 5 rfl; simp [execOp, Act.eval, e25, e27, mp, go_sem], rfl⟩) ?_
              refine .cons (owes_value fun q u lh => ⟨lh.wants1 2 true rfl rfl rfl, .agg #[.int .i64 y0, .int .i64 y1, .int .i64 y2, .int .i64 y3, .int .i64 y4, .int .i64 y5, .int .i64 y6], by have e28 : q.tmps.getD 28 undef = .pointer (some ⟨b, off + m * 7, none⟩) := lh.dep 6 rfl; obtain ⟨z0, z1, z2, z3, z4, z5, z6⟩ := (Y.out.below B6.out).below lh.below; simp [execOp, Act.eval, e28, z0, z1, z2, z3, z4, z5, z6, go_sem], rfl⟩) ?_
              refine .cons (owes_value fun q u lh => ⟨lh.wants1 2 true rfl rfl rfl, .agg #[.int .i64 x0, .int .i64 x1, .int .i64 x2, .int .i64 x3, .int .i64 x4, .int .i64 x5, .int .i64 x6], by have e4 : q.tmps.getD 4 undef = .pointer (some ⟨wr.heap.size, 0, none⟩) := lh.old 4 rfl; obtain ⟨z0, z1, z2, z3, z4, z5, z6⟩ := X6.out.below lh.below; simp [execOp, Act.eval, e4, z0, z1, z2, z3, z4, z5, z6, go_sem], rfl⟩) ?_
              refine .cons (owes_call 34 Try.func34 (by kernel_rfl) (by kernel_rfl) [.tmp 29, .tmp 30] #[25, 25] rfl fun q u lh => ⟨lh.wants1 2 true rfl rfl rfl, by have e29 : q.tmps.getD 29 undef = .agg #[.int .i64 y0, .int .i64 y1, .int .i64 y2, .int .i64 y3, .int .i64 y4, .int .i64 y5, .int .i64 y6] := lh.dep 7 rfl; have e30 : q.tmps.getD 30 undef = .agg #[.int .i64 x0, .int .i64 x1, .int .i64 x2, .int .i64 x3, .int .i64 x4, .int .i64 x5, .int .i64 x6] := lh.dep 8 rfl; show Calls Try.prog 34 #[q.tmps.getD 29 undef, q.tmps.getD 30 undef] u _; rw [e29, e30]; exact int_fact (O.out u)⟩) ?_
              refine .cons (owes_value fun q u lh => ⟨lh.wants1 2 true rfl rfl rfl, .bool false, by have e31 : q.tmps.getD 31 undef = .int .i64 s := lh.dep 9 rfl; simp [execOp, Act.eval, e31, SB, go_sem], rfl⟩) ?_
              refine .cons (owes_pick (.tmp 24) (.tmp 32) (.const (.bool false)) rfl fun q u lh => ⟨wants_free rfl, true, lh.dep 2 rfl, lh.dep 10 rfl⟩) ?_
              exact .nil _
            intro q u hb hsz hdf hold hfact
            obtain rfl := frame_puts hsz hdf [22, 23, 24, 25, 26, 27, 28, 29, 30, 31, 32, 33] hold [(22, Value.int .i64 k), (23, Value.bool true), (24, Value.bool true), (25, Value.slice (some ⟨b, off, none⟩) n c), (26, Value.int .i64 k), (27, Value.int .i64 m), (28, Value.pointer (some ⟨b, off + m * 7, none⟩)), (29, Value.agg #[.int .i64 y0, .int .i64 y1, .int .i64 y2, .int .i64 y3, .int .i64 y4, .int .i64 y5, .int .i64 y6]), (30, Value.agg #[.int .i64 x0, .int .i64 x1, .int .i64 x2, .int .i64 x3, .int .i64 x4, .int .i64 x5, .int .i64 x6]), (31, Value.int .i64 s), (32, Value.bool false), (33, Value.bool false)] ⟨hfact 0 (by decide), hfact 1 (by decide), hfact 2 (by decide), hfact 3 (by decide), hfact 4 (by decide), hfact 5 (by decide), hfact 6 (by decide), hfact 7 (by decide), hfact 8 (by decide), hfact 9 (by decide), hfact 10 (by decide), hfact 11 (by decide), trivial⟩ rfl
            clear hsz hdf hold hfact
            have B8 : Hid (Below w.heap.size w u) := B6.out.trans (hb.mono B6.out.size)
            clear hb X6
            simp only [puts, Act.put, List.setIfInBounds_toArray, List.set_cons_zero, List.set_cons_succ]
            go_wp2
            go_roundw
            case rel => exact ⟨k + 1, by omega, by go_num, HS.out, B8⟩
            case measure => simp [intOf]; omega
          | false =>
            have HS : Hid (false = qIs L) := qIs_bad (pw_no_le (k := k) (by have := HM.out; omega) HK.out (by rw [HY.out, HX.out]; exact hle))
            rw [hle] at sb
            have SB : decide (0 < s) = true := sb
            clear sb hle
            go_wp2_with fail
            rw [← HW.out]
            clear HW p0 p1 p2 p3 p4 p5 p6
            refine region_owes (L := [Fact.is (.slice (some ⟨b, off, none⟩) n c),
              Fact.is (.int .i64 k),
              Fact.is (.slice (some ⟨b, off, none⟩) k c),
              Fact.is (.pointer (some ⟨wr.heap.size, 0, none⟩)),
              Fact.is (.int .i64 x0),
              Fact.is (.int .i64 r),
              Fact.is (.bool false)])
              (T := [15, 16, 17, 18, 19, 20, 21]) (by kernel_rfl) (by kernel_rfl) rfl ?owes ?_
            case owes =>
              refine .cons (owes_move (.tmp 0) (.inl rfl) fun q u lh => ⟨wants_free rfl, lh.old 0 rfl⟩) ?_
              refine .cons (owes_move (.tmp 3) (.inl rfl) fun q u lh => ⟨wants_free rfl, lh.old 3 rfl⟩) ?_
              refine .cons (owes_value fun q u lh => ⟨wants_free rfl, .slice (some ⟨b, off, none⟩) k c, by have e15 : q.tmps.getD 15 undef = .slice (some ⟨b, off, none⟩) n c := lh.dep 0 rfl; have e16 : q.tmps.getD 16 undef = .int .i64 k := lh.dep 1 rfl; have z1 : k ≤ c := (by omega); have z2 : ¬ c < k := (by omega); simp [execOp, Act.eval, e15, e16, z1, z2, go_sem], rfl⟩) ?_
              refine .cons (owes_value fun q u lh => ⟨wants_free rfl, .pointer (some ⟨wr.heap.size, 0, none⟩), by have e4 : q.tmps.getD 4 undef = .pointer (some ⟨wr.heap.size, 0, none⟩) := lh.old 4 rfl; simp [execOp, Act.eval, e4, go_sem], rfl⟩) ?_
              refine .cons (owes_value fun q u lh => ⟨wants_free rfl, .int .i64 x0, by have e18 : q.tmps.getD 18 undef = .pointer (some ⟨wr.heap.size, 0, none⟩) := lh.dep 3 rfl; obtain ⟨z0, z1, z2, z3, z4, z5, z6⟩ := X2.out.below lh.below; simp [execOp, Act.eval, e18, z0, go_sem], rfl⟩) ?_
              refine .cons (owes_call 18 Try.func18 (by kernel_rfl) (by kernel_rfl) [.tmp 17, .tmp 19] #[23, 2] rfl fun q u lh => ⟨wants_free rfl, by have e17 : q.tmps.getD 17 undef = .slice (some ⟨b, off, none⟩) k c := lh.dep 2 rfl; have e19 : q.tmps.getD 19 undef = .int .i64 x0 := lh.dep 4 rfl; show Calls Try.prog 18 #[q.tmps.getD 17 undef, q.tmps.getD 19 undef] u _; rw [e17, e19]; exact int_fact (F.out u (B2.out.trans (lh.below.mono B2.out.size)))⟩) ?_
              refine .cons (owes_value fun q u lh => ⟨wants_free rfl, .bool false, by have e20 : q.tmps.getD 20 undef = .int .i64 r := lh.dep 5 rfl; simp [execOp, Act.eval, e20, RD, go_sem], rfl⟩) ?_
              exact .nil _
            intro q u hb hsz hdf hold hfact
            obtain rfl := frame_puts hsz hdf [15, 16, 17, 18, 19, 20, 21] hold [(15, Value.slice (some ⟨b, off, none⟩) n c), (16, Value.int .i64 k), (17, Value.slice (some ⟨b, off, none⟩) k c), (18, Value.pointer (some ⟨wr.heap.size, 0, none⟩)), (19, Value.int .i64 x0), (20, Value.int .i64 r), (21, Value.bool false)] ⟨hfact 0 (by decide), hfact 1 (by decide), hfact 2 (by decide), hfact 3 (by decide), hfact 4 (by decide), hfact 5 (by decide), hfact 6 (by decide), trivial⟩ rfl
            clear hsz hdf hold hfact
            have B6 : Hid (Below w.heap.size w u) := B2.out.trans (hb.mono B2.out.size)
            have X6 : Hid (At7 u wr.heap.size 0 (x0, x1, x2, x3, x4, x5, x6)) := X2.out.below hb
            obtain ⟨u6, rfl⟩ : ∃ z, z = u := ⟨u, rfl⟩
            clear hb X2 B2
            simp only [puts, Act.put, List.setIfInBounds_toArray, List.set_cons_zero, List.set_cons_succ]
            go_wp2_with fail
            refine region_owes (L := [Fact.is (.int .i64 k),
              Fact.is (.bool true),
              Fact.is (.bool true),
              Fact.is (.slice (some ⟨b, off, none⟩) n c),
              Fact.is (.int .i64 k),
              Fact.is (.int .i64 m),
              Fact.is (.pointer (some ⟨b, off + m * 7, none⟩)),
              Fact.is (.agg #[.int .i64 y0, .int .i64 y1, .int .i64 y2, .int .i64 y3, .int .i64 y4, .int .i64 y5, .int .i64 y6]),
              Fact.is (.agg #[.int .i64 x0, .int .i64 x1, .int .i64 x2, .int .i64 x3, .int .i64 x4, .int .i64 x5, .int .i64 x6]),
              Fact.is (.int .i64 s),
              Fact.is (.bool true),
              Fact.is (.bool true)])
              (T := [22, 23, 24, 25, 26, 27, 28, 29, 30, 31, 32, 33]) (by kernel_rfl) (by kernel_rfl) rfl ?owes ?_
            case owes =>
              refine .cons (owes_move (.tmp 3) (.inl rfl) fun q u lh => ⟨wants_free rfl, lh.old 3 rfl⟩) ?_
              refine .cons (owes_value fun q u lh => ⟨wants_free rfl, .bool true, by have e22 : q.tmps.getD 22 undef = .int .i64 k := lh.dep 0 rfl; simp [execOp, Act.eval, e22, kn, go_sem], rfl⟩) ?_
              refine .cons (owes_move (.tmp 23) (.inl rfl) fun q u lh => ⟨wants_free rfl, lh.dep 1 rfl⟩) ?_
              refine .cons (owes_move (.tmp 0) (.inl rfl) fun q u lh => ⟨lh.wants1 2 true rfl rfl rfl, lh.old 0 rfl⟩) ?_
              refine .cons (owes_move (.tmp 3) (.inl rfl) fun q u lh => ⟨lh.wants1 2 true rfl rfl rfl, lh.old 3 rfl⟩) ?_
              refine .cons (owes_value fun q u lh => ⟨lh.wants1 2 true rfl rfl rfl, .int .i64 m, by have e26 : q.tmps.getD 26 undef = .int .i64 k := lh.dep 4 rfl; have z1 : IntKind.i64.wrap ((k : Int) - 1) = m := (by rw [KM.out]; exact i64_wf (by omega) (by omega)); simp [execOp, Act.eval, e26, z1, go_sem], rfl⟩) ?_
              refine .cons (owes_value fun q u lh => ⟨lh.wants1 2 true rfl rfl rfl, .pointer (some ⟨b, off + m * 7, none⟩), by have e25 : q.tmps.getD 25 undef = .slice (some ⟨b, off, none⟩) n c := lh.dep 3 rfl; have e27 : q.tmps.getD 27 undef = .int .i64 m := lh.dep 5 rfl; simp [execOp, Act.eval, e25, e27, mp, go_sem], rfl⟩) ?_
              refine .cons (owes_value fun q u lh => ⟨lh.wants1 2 true rfl rfl rfl, .agg #[.int .i64 y0, .int .i64 y1, .int .i64 y2, .int .i64 y3, .int .i64 y4, .int .i64 y5, .int .i64 y6], by have e28 : q.tmps.getD 28 undef = .pointer (some ⟨b, off + m * 7, none⟩) := lh.dep 6 rfl; obtain ⟨z0, z1, z2, z3, z4, z5, z6⟩ := (Y.out.below B6.out).below lh.below; simp [execOp, Act.eval, e28, z0, z1, z2, z3, z4, z5, z6, go_sem], rfl⟩) ?_
              refine .cons (owes_value fun q u lh => ⟨lh.wants1 2 true rfl rfl rfl, .agg #[.int .i64 x0, .int .i64 x1, .int .i64 x2, .int .i64 x3, .int .i64 x4, .int .i64 x5, .int .i64 x6], by have e4 : q.tmps.getD 4 undef = .pointer (some ⟨wr.heap.size, 0, none⟩) := lh.old 4 rfl; obtain ⟨z0, z1, z2, z3, z4, z5, z6⟩ := X6.out.below lh.below; simp [execOp, Act.eval, e4, z0, z1, z2, z3, z4, z5, z6, go_sem], rfl⟩) ?_
              refine .cons (owes_call 34 Try.func34 (by kernel_rfl) (by kernel_rfl) [.tmp 29, .tmp 30] #[25, 25] rfl fun q u lh => ⟨lh.wants1 2 true rfl rfl rfl, by have e29 : q.tmps.getD 29 undef = .agg #[.int .i64 y0, .int .i64 y1, .int .i64 y2, .int .i64 y3, .int .i64 y4, .int .i64 y5, .int .i64 y6] := lh.dep 7 rfl; have e30 : q.tmps.getD 30 undef = .agg #[.int .i64 x0, .int .i64 x1, .int .i64 x2, .int .i64 x3, .int .i64 x4, .int .i64 x5, .int .i64 x6] := lh.dep 8 rfl; show Calls Try.prog 34 #[q.tmps.getD 29 undef, q.tmps.getD 30 undef] u _; rw [e29, e30]; exact int_fact (O.out u)⟩) ?_
              refine .cons (owes_value fun q u lh => ⟨lh.wants1 2 true rfl rfl rfl, .bool true, by have e31 : q.tmps.getD 31 undef = .int .i64 s := lh.dep 9 rfl; simp [execOp, Act.eval, e31, SB, go_sem], rfl⟩) ?_
              refine .cons (owes_pick (.tmp 24) (.tmp 32) (.const (.bool false)) rfl fun q u lh => ⟨wants_free rfl, true, lh.dep 2 rfl, lh.dep 10 rfl⟩) ?_
              exact .nil _
            intro q u hb hsz hdf hold hfact
            obtain rfl := frame_puts hsz hdf [22, 23, 24, 25, 26, 27, 28, 29, 30, 31, 32, 33] hold [(22, Value.int .i64 k), (23, Value.bool true), (24, Value.bool true), (25, Value.slice (some ⟨b, off, none⟩) n c), (26, Value.int .i64 k), (27, Value.int .i64 m), (28, Value.pointer (some ⟨b, off + m * 7, none⟩)), (29, Value.agg #[.int .i64 y0, .int .i64 y1, .int .i64 y2, .int .i64 y3, .int .i64 y4, .int .i64 y5, .int .i64 y6]), (30, Value.agg #[.int .i64 x0, .int .i64 x1, .int .i64 x2, .int .i64 x3, .int .i64 x4, .int .i64 x5, .int .i64 x6]), (31, Value.int .i64 s), (32, Value.bool true), (33, Value.bool true)] ⟨hfact 0 (by decide), hfact 1 (by decide), hfact 2 (by decide), hfact 3 (by decide), hfact 4 (by decide), hfact 5 (by decide), hfact 6 (by decide), hfact 7 (by decide), hfact 8 (by decide), hfact 9 (by decide), hfact 10 (by decide), hfact 11 (by decide), trivial⟩ rfl
            clear hsz hdf hold hfact
            have B8 : Hid (Below w.heap.size w u) := B6.out.trans (hb.mono B6.out.size)
            clear hb X6
            simp only [puts, Act.put, List.setIfInBounds_toArray, List.set_cons_zero, List.set_cons_succ]
            go_wp2
            go_ret
            exact ⟨rt_bool HS.out, B8.out⟩
    · obtain rfl : k = n := by omega
      have HS : Hid (true = qIs L) := qIs_all HN.out HQ.out (by have := HN.out; omega)
      go_wp2
      go_ret
      exact ⟨rt_bool HS.out, HB.out⟩

theorem is_any7 (a : Option Addr) (n c : Nat) (L : List P7) (w : World) (h : PGood w a n c L) :
    Calls Try.prog 21 #[.slice a n c] w fun e w' => e = .returned (.bool (qIs L)) ∧ Below w.heap.size w w' := by
  have hl := h.len
  by_cases h4 : 40 < n
  · rw [← qIs_long (L := L) (by omega)]
    refine (is_long a n c w h4).mono ?_
    rintro e w' ⟨rfl, rfl⟩
    exact ⟨rfl, Below.refl _ _⟩
  · rcases h.pays.2 with h0 | ⟨b, off, rfl, hc⟩
    · subst h0
      have : n = 0 := by simpa using hl
      subst this
      refine (is_none a c w).mono ?_
      rintro e w' ⟨rfl, rfl⟩
      exact ⟨rfl, Below.refl _ _⟩
    · exact is_row b off n c L w hl (by omega) h.cap h.max (fun i hi => hc i (by omega))

end Go.Proofs.Ytjibnbheegcnkaa
