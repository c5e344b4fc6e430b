/-
  giroref13.Is.
-/
import Derived.Test.YtmfmdicdbjghkaaRowIs
import Derived.Test.YtmfmdicdbjghkaaRowRef
namespace Go.Proofs.Ytmfmdicdbjghkaa
open Go.RowKit
set_option linter.unusedVariables false
set_option linter.unusedSimpArgs false

theorem qIs_end {L : List P7} {k : Nat} (hk : k = L.length) (h : (L.take k).Pairwise QR) : decide ((k : Int) ≤ 40) = qIs L := by
  rw [hk, List.take_length] at h
  subst hk
  unfold qIs
  rw [qOk_iff.2 h, Bool.and_true, Bool.eq_iff_iff, decide_eq_true_eq, decide_eq_true_eq]
  omega

theorem refIs_none (a : Option Addr) (c : Nat) (w : World) : Calls Try.prog 7 #[.slice a 0 c] w fun e w' => e = .returned (.bool true) ∧ w' = w := by
  go_enter Try.func7, Try.ntmps7
  go_wp2
  refine wp_loop_rounds 1 ?_
  rw [rounds_succ]
  go_wp2
  go_ret
  exact ⟨rfl, rfl⟩

set_option maxHeartbeats 4000000 in
set_option maxRecDepth 100000 in
theorem refIs_row (b off n c : Nat) (L : List P7) (w : World) (h4 : n ≤ 100000) (hg : PGood w (some ⟨b, off, none⟩) n c L) (hc : ∀ i, i < n → At7 w b (off + i * 7) (L.getD i p70)) :
    Calls Try.prog 7 #[.slice (some ⟨b, off, none⟩) n c] w fun e w' => e = .returned (.bool (qIs L)) ∧ Below w.heap.size w w' := by
  have HC : Hid (∀ i, i < n → At7 w b (off + i * 7) (L.getD i p70)) := hc
  have HN : Hid (n = L.length) := hg.len
  have HP : Hid (PGood w (some ⟨b, off, none⟩) n c L) := hg
  clear hc hg
  go_enter Try.func7, Try.ntmps7
  go_wp2
  go_loopw [3] (fun i wr => ∃ k : Nat, k ≤ n ∧ i = .int .i64 k ∧ Hid ((L.take k).Pairwise QR) ∧ Hid (Below w.heap.size w wr)) (fun i _ => n - (intOf i).toNat)
  case atStart => exact ⟨0, by omega, rfl, by simp [Hid], Below.refl _ _⟩
  case round =>
    obtain ⟨k, hk, rfl, HQ, HB⟩ := hrel
    by_cases hlt : k < n
    · have i1 : (k : Int) < (n : Int) := by omega
      have HK : Hid (k < L.length) := by have := HN.out; show k < L.length; omega
      have C0 := (HC.out k hlt).below HB.out
      obtain ⟨x, hx⟩ : ∃ x, L.getD k p70 = x := ⟨_, rfl⟩
      rw [hx] at C0
      have HX : Hid (L.getD k p70 = x) := hx
      have hff := find_first HK.out
      rw [hx] at hff
      clear hx
      obtain ⟨x0, x1, x2, x3, x4, x5, x6⟩ := x
      have C : Hid (At7 wr b (off + k * 7) (x0, x1, x2, x3, x4, x5, x6)) := C0
      have F0 := fun u (hb : Below w.heap.size w u) => refFind_any (some ⟨b, off, none⟩) n c x0 L u (by omega) (HP.out.below hb).pays
      obtain ⟨r, hr⟩ : ∃ r, qFind L x0 = r := ⟨_, rfl⟩
      simp only [hr] at F0
      rw [show P7.id (x0, x1, x2, x3, x4, x5, x6) = x0 from rfl, hr] at hff
      clear hr
      cases hd : qHas (L.take k) x0 with
      | true =>
        have HS : Hid (false = qIs L) := qIs_bad (pw_no_id HK.out (by rw [HX.out]; exact hd))
        rw [hd] at hff
        have rk : (r != (k : Int)) = true := hff
        have rk2 : ¬ r = (k : Int) := by simpa using hff
        have F1 := fun q => F0 (wr.drewN q) (HB.out.trans ((drawn_below wr q).mono HB.out.size))
        have B4 : Hid (∀ q, Below w.heap.size w (wr.drewN q)) := fun q => HB.out.trans ((drawn_below wr q).mono HB.out.size)
        obtain ⟨z0, z1, z2, z3, z4, z5, z6⟩ := C0
        simp only [P7.id, P7.fr, P7.to, P7.am, P7.cl, P7.st, P7.ti] at z0 z1 z2 z3 z4 z5 z6
        clear hff hd F0
        go_wp2
        go_quiet ((go_at_call 20; exact Calls.quiet_of_same (F1 _)))
        go_wp2
        go_ret
        exact ⟨rt_bool HS.out, B4.out _⟩
      | false =>
        have HD : Hid (qHas (L.take k) (L.getD k p70).id = false) := by rw [HX.out]; exact hd
        rw [hd] at hff
        obtain rfl : r = (k : Int) := by simpa using hff
        have F : Hid (∀ u, Below w.heap.size w u → Calls Try.prog 20 #[.slice (some ⟨b, off, none⟩) n c, .int .i64 x0] u fun e w' => e = .returned (.int .i64 k) ∧ w' = u) := F0
        clear hff hd F0
        by_cases hk0 : k = 0
        · have HS : Hid ((L.take (k + 1)).Pairwise QR) := pw_step HK.out HQ.out HD.out (fun h => by omega)
          have kd : decide (0 < k) = false := by simp [hk0]
          have F1 := fun q => F.out (wr.drewN q) (HB.out.trans ((drawn_below wr q).mono HB.out.size))
          have B4 : Hid (∀ q, Below w.heap.size w (wr.drewN q)) := fun q => HB.out.trans ((drawn_below wr q).mono HB.out.size)
          obtain ⟨z0, z1, z2, z3, z4, z5, z6⟩ := C0
          simp only [P7.id, P7.fr, P7.to, P7.am, P7.cl, P7.st, P7.ti] at z0 z1 z2 z3 z4 z5 z6
          clear hk0 F
          go_wp2
          go_quiet ((go_at_call 20; exact Calls.quiet_of_same (F1 _)))
          go_wp2
          go_roundw
          case rel => exact ⟨k + 1, by omega, by go_num, HS.out, B4.out _⟩
          case measure => simp [intOf]; omega
        · have kn : 0 < k := by omega
          obtain ⟨m, hm⟩ : ∃ m, m + 1 = k := ⟨k - 1, by omega⟩
          have KM : Hid ((k : Int) - 1 = m) := by show (k : Int) - 1 = m; omega
          have mp : (m : Int) < (n : Int) := by omega
          have Y0 := (HC.out m (by omega)).below HB.out
          obtain ⟨y, hy⟩ : ∃ y, L.getD m p70 = y := ⟨_, rfl⟩
          rw [hy] at Y0
          have HY : Hid (L.getD (k - 1) p70 = y) := by show _ = _; rw [show k - 1 = m by omega]; exact hy
          obtain ⟨y0, y1, y2, y3, y4, y5, y6⟩ := y
          have Y : Hid (At7 wr b (off + m * 7) (y0, y1, y2, y3, y4, y5, y6)) := Y0
          have HM : Hid (m + 1 = k) := hm
          have A0 := fun u => refAhead_any (y0, y1, y2, y3, y4, y5, y6) (x0, x1, x2, x3, x4, x5, x6) u
          clear hy Y0 hm hk0 C0
          cases hle : qLe (y0, y1, y2, y3, y4, y5, y6) (x0, x1, x2, x3, x4, x5, x6) with
          | true =>
            have HS : Hid ((L.take (k + 1)).Pairwise QR) := pw_step HK.out HQ.out HD.out (fun h => by rw [HY.out, HX.out]; exact hle)
            simp only [hle] at A0
            have A : Hid (∀ u, Calls Try.prog 21 #[P7.val (y0, y1, y2, y3, y4, y5, y6), P7.val (x0, x1, x2, x3, x4, x5, x6)] u fun e w' => e = .returned (.bool true) ∧ Below u.heap.size u w') := A0
            clear A0 hle
            go_wp2_with fail
            refine region_owes (L := [Fact.is (.slice (some ⟨b, off, none⟩) n c),
              Fact.is (.slice (some ⟨b, off, none⟩) n c),
              Fact.is (.int .i64 k),
              Fact.is (.pointer (some ⟨b, off + k * 7, none⟩)),
              Fact.is (.pointer (some ⟨b, off + k * 7, none⟩)),
              Fact.is (.int .i64 x0),
              Fact.is (.int .i64 k),
              Fact.is (.int .i64 k),
              Fact.is (.bool false),
              Fact.is (.bool false),
              Fact.is (.int .i64 k),
              Fact.is (.bool true),
              Fact.is (.bool true),
              Fact.is (.slice (some ⟨b, off, none⟩) n c),
              Fact.is (.int .i64 k),
              Fact.is (.int .i64 m),
              Fact.is (.pointer (some ⟨b, off + m * 7, none⟩)),
              Fact.is (.agg #[.int .i64 y0, .int .i64 y1, .int .i64 y2, .int .i64 y3, .int .i64 y4, .int .i64 y5, .int .i64 y6]),
              Fact.is (.slice (some ⟨b, off, none⟩) n c),
              Fact.is (.int .i64 k),
              Fact.is (.pointer (some ⟨b, off + k * 7, none⟩)),
              Fact.is (.agg #[.int .i64 x0, .int .i64 x1, .int .i64 x2, .int .i64 x3, .int .i64 x4, .int .i64 x5, .int .i64 x6]),
              Fact.is (.bool true),
              Fact.is (.bool false),
              Fact.is (.bool false),
              Fact.is (.bool false)])
              (T := [10, 11, 12, 13, 14, 15, 16, 17, 18, 19, 20, 21, 22, 23, 24, 25, 26, 27, 28, 29, 30, 31, 32, 33, 34, 35]) (by kernel_rfl) (by kernel_rfl) rfl ?owes ?_
            case owes =>
              refine .cons (owes_move (.tmp 0) (.inl rfl) fun q u lh => ⟨wants_free rfl, lh.old 0 rfl⟩) ?_
              refine .cons (owes_move (.tmp 0) (.inl rfl) fun q u lh => ⟨wants_free rfl, lh.old 0 rfl⟩) ?_
              refine .cons (owes_move (.tmp 3) (.inl rfl) fun q u lh => ⟨wants_free rfl, lh.old 3 rfl⟩) ?_
              refine .cons (owes_value fun q u lh => ⟨wants_free rfl, .pointer (some ⟨b, off + k * 7, none⟩), by have e11 : q.tmps.getD 11 undef = .slice (some ⟨b, off, none⟩) n c := lh.dep 1 rfl; have e12 : q.tmps.getD 12 undef = .int .i64 k := lh.dep 2 rfl; simp [execOp, Act.eval, e11, e12, i1, go_sem], rfl⟩) ?_
              refine .cons (owes_value fun q u lh => ⟨wants_free rfl, .pointer (some ⟨b, off + k * 7, none⟩), by have e13 : q.tmps.getD 13 undef = .pointer (some ⟨b, off + k * 7, none⟩) := lh.dep 3 rfl; simp [execOp, Act.eval, e13, go_sem], rfl⟩) ?_
              refine .cons (owes_value fun q u lh => ⟨wants_free rfl, .int .i64 x0, by have e14 : q.tmps.getD 14 undef = .pointer (some ⟨b, off + k * 7, none⟩) := lh.dep 4 rfl; obtain ⟨z0, z1, z2, z3, z4, z5, z6⟩ := C.out.below lh.below; simp [execOp, Act.eval, e14, z0, go_sem], rfl⟩) ?_
              refine .cons (owes_call 20 Try.func20 (by kernel_rfl) (by kernel_rfl) [.tmp 10, .tmp 15] #[22, 2] rfl fun q u lh => ⟨wants_free rfl, by have e10 : q.tmps.getD 10 undef = .slice (some ⟨b, off, none⟩) n c := lh.dep 0 rfl; have e15 : q.tmps.getD 15 undef = .int .i64 x0 := lh.dep 5 rfl; show Calls Try.prog 20 #[q.tmps.getD 10 undef, q.tmps.getD 15 undef] u _; rw [e10, e15]; exact int_fact ((F.out u (HB.out.trans (lh.below.mono HB.out.size))).mono fun e w' ⟨h1, h2⟩ => ⟨h1, h2 ▸ Below.refl _ _⟩)⟩) ?_
              refine .cons (owes_move (.tmp 3) (.inl rfl) fun q u lh => ⟨wants_free rfl, lh.old 3 rfl⟩) ?_
              refine .cons (owes_value fun q u lh => ⟨wants_free rfl, .bool false, by have e16 : q.tmps.getD 16 undef = .int .i64 k := lh.dep 6 rfl; have e17 : q.tmps.getD 17 undef = .int .i64 k := lh.dep 7 rfl; simp [execOp, Act.eval, e16, e17, go_sem], rfl⟩) ?_
              refine .cons (owes_move (.tmp 18) (.inl rfl) fun q u lh => ⟨wants_free rfl, lh.dep 8 rfl⟩) ?_
              refine .cons (owes_move (.tmp 3) (.inl rfl) fun q u lh => ⟨lh.wants1 9 false rfl rfl rfl, lh.old 3 rfl⟩) ?_
              refine .cons (owes_value fun q u lh => ⟨lh.wants1 9 false rfl rfl rfl, .bool true, by have e20 : q.tmps.getD 20 undef = .int .i64 k := lh.dep 10 rfl; simp [execOp, Act.eval, e20, kn, go_sem], rfl⟩) ?_
              refine .cons (owes_move (.tmp 21) (.inl rfl) fun q u lh => ⟨lh.wants1 9 false rfl rfl rfl, lh.dep 11 rfl⟩) ?_
              refine .cons (owes_move (.tmp 0) (.inl rfl) fun q u lh => ⟨lh.wants1 12 true rfl rfl rfl, lh.old 0 rfl⟩) ?_
              refine .cons (owes_move (.tmp 3) (.inl rfl) fun q u lh => ⟨lh.wants1 12 true rfl rfl rfl, lh.old 3 rfl⟩) ?_
              refine .cons (owes_value fun q u lh => ⟨lh.wants1 12 true rfl rfl rfl, .int .i64 m, by have e24 : q.tmps.getD 24 undef = .int .i64 k := lh.dep 14 rfl; have z1 : IntKind.i64.wrap ((k : Int) - 1) = m := (by rw [KM.out]; exact i64_wf (by omega) (by omega)); simp [execOp, Act.eval, e24, z1, go_sem], rfl⟩) ?_
              refine .cons (owes_value fun q u lh => ⟨lh.wants1 12 true rfl rfl rfl, .pointer (some ⟨b, off + m * 7, none⟩), by have e23 : q.tmps.getD 23 undef = .slice (some ⟨b, off, none⟩) n c := lh.dep 13 rfl; have e25 : q.tmps.getD 25 undef = .int .i64 m := lh.dep 15 rfl; simp [execOp, Act.eval, e23, e25, mp, go_sem], rfl⟩) ?_
              refine .cons (owes_value fun q u lh => ⟨lh.wants1 12 true rfl rfl rfl, .agg #[.int .i64 y0, .int .i64 y1, .int .i64 y2, .int .i64 y3, .int .i64 y4, .int .i64 y5, .int .i64 y6], by have e26 : q.tmps.getD 26 undef = .pointer (some ⟨b, off + m * 7, none⟩) := lh.dep 16 rfl; obtain ⟨z0, z1, z2, z3, z4, z5, z6⟩ := Y.out.below lh.below; simp [execOp, Act.eval, e26, z0, z1, z2, z3, z4, z5, z6, go_sem], rfl⟩) ?_
              refine .cons (owes_move (.tmp 0) (.inl rfl) fun q u lh => ⟨lh.wants1 12 true rfl rfl rfl, lh.old 0 rfl⟩) ?_
              refine .cons (owes_move (.tmp 3) (.inl rfl) fun q u lh => ⟨lh.wants1 12 true rfl rfl rfl, lh.old 3 rfl⟩) ?_
              refine .cons (owes_value fun q u lh => ⟨lh.wants1 12 true rfl rfl rfl, .pointer (some ⟨b, off + k * 7, none⟩), by have e28 : q.tmps.getD 28 undef = .slice (some ⟨b, off, none⟩) n c := lh.dep 18 rfl; have e29 : q.tmps.getD 29 undef = .int .i64 k := lh.dep 19 rfl; simp [execOp, Act.eval, e28, e29, i1, go_sem], rfl⟩) ?_
              refine .cons (owes_value fun q u lh => ⟨lh.wants1 12 true rfl rfl rfl, .agg #[.int .i64 x0, .int .i64 x1, .int .i64 x2, .int .i64 x3, .int .i64 x4, .int .i64 x5, .int .i64 x6], by have e30 : q.tmps.getD 30 undef = .pointer (some ⟨b, off + k * 7, none⟩) := lh.dep 20 rfl; obtain ⟨z0, z1, z2, z3, z4, z5, z6⟩ := C.out.below lh.below; simp [execOp, Act.eval, e30, z0, z1, z2, z3, z4, z5, z6, go_sem], rfl⟩) ?_
              refine .cons (owes_call 21 Try.func21 (by kernel_rfl) (by kernel_rfl) [.tmp 27, .tmp 31] #[34, 34] rfl fun q u lh => ⟨lh.wants1 12 true rfl rfl rfl, by have e27 : q.tmps.getD 27 undef = .agg #[.int .i64 y0, .int .i64 y1, .int .i64 y2, .int .i64 y3, .int .i64 y4, .int .i64 y5, .int .i64 y6] := lh.dep 17 rfl; have e31 : q.tmps.getD 31 undef = .agg #[.int .i64 x0, .int .i64 x1, .int .i64 x2, .int .i64 x3, .int .i64 x4, .int .i64 x5, .int .i64 x6] := lh.dep 21 rfl; show Calls Try.prog 21 #[q.tmps.getD 27 undef, q.tmps.getD 31 undef] u _; rw [e27, e31]; exact bool_fact (A.out u)⟩) ?_
              refine .cons (owes_value fun q u lh => ⟨lh.wants1 12 true rfl rfl rfl, .bool false, by have e32 : q.tmps.getD 32 undef = .bool true := lh.dep 22 rfl; simp [execOp, Act.eval, e32, go_sem], rfl⟩) ?_
              refine .cons (owes_pick (.tmp 22) (.tmp 33) (.const (.bool false)) rfl fun q u lh => ⟨lh.wants1 9 false rfl rfl rfl, true, lh.dep 12 rfl, lh.dep 23 rfl⟩) ?_
              refine .cons (owes_pick (.tmp 19) (.const (.bool true)) (.tmp 34) rfl fun q u lh => ⟨wants_free rfl, false, lh.dep 9 rfl, lh.dep 24 rfl⟩) ?_
              exact .nil _
            intro q u hb hsz hdf hold hfact
            obtain rfl := frame_puts hsz hdf [10, 11, 12, 13, 14, 15, 16, 17, 18, 19, 20, 21, 22, 23, 24, 25, 26, 27, 28, 29, 30, 31, 32, 33, 34, 35] hold [(10, Value.slice (some ⟨b, off, none⟩) n c), (11, Value.slice (some ⟨b, off, none⟩) n c), (12, Value.int .i64 k), (13, Value.pointer (some ⟨b, off + k * 7, none⟩)), (14, Value.pointer (some ⟨b, off + k * 7, none⟩)), (15, Value.int .i64 x0), (16, Value.int .i64 k), (17, Value.int .i64 k), (18, Value.bool false), (19, Value.bool false), (20, Value.int .i64 k), (21, Value.bool true), (22, Value.bool true), (23, Value.slice (some ⟨b, off, none⟩) n c), (24, Value.int .i64 k), (25, Value.int .i64 m), (26, Value.pointer (some ⟨b, off + m * 7, none⟩)), (27, Value.agg #[.int .i64 y0, .int .i64 y1, .int .i64 y2, .int .i64 y3, .int .i64 y4, .int .i64 y5, .int .i64 y6]), (28, Value.slice (some ⟨b, off, none⟩) n c), (29, Value.int .i64 k), (30, Value.pointer (some ⟨b, off + k * 7, none⟩)), (31, Value.agg #[.int .i64 x0, .int .i64 x1, .int .i64 x2, .int .i64 x3, .int .i64 x4, .int .i64 x5, .int .i64 x6]), (32, Value.bool true), (33, Value.bool false), (34, Value.bool false), (35, Value.bool false)] ⟨hfact 0 (by decide), hfact 1 (by decide), hfact 2 (by decide), hfact 3 (by decide), hfact 4 (by decide), hfact 5 (by decide), hfact 6 (by decide), hfact 7 (by decide), hfact 8 (by decide), hfact 9 (by decide), hfact 10 (by decide), hfact 11 (by decide), hfact 12 (by decide), hfact 13 (by decide), hfact 14 (by decide), hfact 15 (by decide), hfact 16 (by decide), hfact 17 (by decide), hfact 18 (by decide), hfact 19 (by decide), hfact 20 (by decide), hfact 21 (by decide), hfact 22 (by decide), hfact 23 (by decide), hfact 24 (by decide), hfact 25 (by decide), trivial⟩ rfl
            clear hsz hdf hold hfact
            simp only [puts, Act.put, List.setIfInBounds_toArray, List.set_cons_zero, List.set_cons_succ]
            have B4 : Hid (Below w.heap.size w u) := HB.out.trans (hb.mono HB.out.size)
            clear hb
            go_wp2
            go_roundw
            case rel => exact ⟨k + 1, by omega, by go_num, HS.out, B4⟩
            case measure => simp [intOf]; omega
          | false =>
            have HS : Hid (false = qIs L) := qIs_bad (pw_no_le (k := k) (by have := HM.out; omega) HK.out (by rw [HY.out, HX.out]; exact hle))
            simp only [hle] at A0
            have A : Hid (∀ u, Calls Try.prog 21 #[P7.val (y0, y1, y2, y3, y4, y5, y6), P7.val (x0, x1, x2, x3, x4, x5, x6)] u fun e w' => e = .returned (.bool false) ∧ Below u.heap.size u w') := A0
            clear A0 hle
            go_wp2_with fail
            refine region_owes (L := [Fact.is (.slice (some ⟨b, off, none⟩) n c),
              Fact.is (.slice (some ⟨b, off, none⟩) n c),
              Fact.is (.int .i64 k),
              Fact.is (.pointer (some ⟨b, off + k * 7, none⟩)),
              Fact.is (.pointer (some ⟨b, off + k * 7, none⟩)),
              Fact.is (.int .i64 x0),
              Fact.is (.int .i64 k),
              Fact.is (.int .i64 k),
              Fact.is (.bool false),
              Fact.is (.bool false),
              Fact.is (.int .i64 k),
              Fact.is (.bool true),
              Fact.is (.bool true),
              Fact.is (.slice (some ⟨b, off, none⟩) n c),
              Fact.is (.int .i64 k),
              Fact.is (.int .i64 m),
              Fact.is (.pointer (some ⟨b, off + m * 7, none⟩)),
              Fact.is (.agg #[.int .i64 y0, .int .i64 y1, .int .i64 y2, .int .i64 y3, .int .i64 y4, .int .i64 y5, .int .i64 y6]),
              Fact.is (.slice (some ⟨b, off, none⟩) n c),
              Fact.is (.int .i64 k),
              Fact.is (.pointer (some ⟨b, off + k * 7, none⟩)),
              Fact.is (.agg #[.int .i64 x0, .int .i64 x1, .int .i64 x2, .int .i64 x3, .int .i64 x4, .int .i64 x5, .int .i64 x6]),
              Fact.is (.bool false),
              Fact.is (.bool true),
              Fact.is (.bool true),
              Fact.is (.bool true)])
              (T := [10, 11, 12, 13, 14, 15, 16, 17, 18, 19, 20, 21, 22, 23, 24, 25, 26, 27, 28, 29, 30, 31, 32, 33, 34, 35]) (by kernel_rfl) (by kernel_rfl) rfl ?owes ?_
            case owes =>
              refine .cons (owes_move (.tmp 0) (.inl rfl) fun q u lh => ⟨wants_free rfl, lh.old 0 rfl⟩) ?_
              refine .cons (owes_move (.tmp 0) (.inl rfl) fun q u lh => ⟨wants_free rfl, lh.old 0 rfl⟩) ?_
              refine .cons (owes_move (.tmp 3) (.inl rfl) fun q u lh => ⟨wants_free rfl, lh.old 3 rfl⟩) ?_
              refine .cons (owes_value fun q u lh => ⟨wants_free rfl, .pointer (some ⟨b, off + k * 7, none⟩), by have e11 : q.tmps.getD 11 undef = .slice (some ⟨b, off, none⟩) n c := lh.dep 1 rfl; have e12 : q.tmps.getD 12 undef = .int .i64 k := lh.dep 2 rfl; simp [execOp, Act.eval, e11, e12, i1, go_sem], rfl⟩) ?_
              refine .cons (owes_value fun q u lh => ⟨wants_free rfl, .pointer (some ⟨b, off + k * 7, none⟩), by have e13 : q.tmps.getD 13 undef = .pointer (some ⟨b, off + k * 7, none⟩) := lh.dep 3 rfl; simp [execOp, Act.eval, e13, go_sem], rfl⟩) ?_
              refine .cons (owes_value fun q u lh => ⟨wants_free rfl, .int .i64 x0, by have e14 : q.tmps.getD 14 undef = .pointer (some ⟨b, off + k * 7, none⟩) := lh.dep 4 rfl; obtain ⟨z0, z1, z2, z3, z4, z5, z6⟩ := C.out.below lh.below; simp [execOp, Act.eval, e14, z0, go_sem], rfl⟩) ?_
              refine .cons (owes_call 20 Try.func20 (by kernel_rfl) (by kernel_rfl) [.tmp 10, .tmp 15] #[22, 2] rfl fun q u lh => ⟨wants_free rfl, by have e10 : q.tmps.getD 10 undef = .slice (some ⟨b, off, none⟩) n c := lh.dep 0 rfl; have e15 : q.tmps.getD 15 undef = .int .i64 x0 := lh.dep 5 rfl; show Calls Try.prog 20 #[q.tmps.getD 10 undef, q.tmps.getD 15 undef] u _; rw [e10, e15]; exact int_fact ((F.out u (HB.out.trans (lh.below.mono HB.out.size))).mono fun e w' ⟨h1, h2⟩ => ⟨h1, h2 ▸ Below.refl _ _⟩)⟩) ?_
              refine .cons (owes_move (.tmp 3) (.inl rfl) fun q u lh => ⟨wants_free rfl, lh.old 3 rfl⟩) ?_
              refine .cons (owes_value fun q u lh => ⟨wants_free rfl, .bool false, by have e16 : q.tmps.getD 16 undef = .int .i64 k := lh.dep 6 rfl; have e17 : q.tmps.getD 17 undef = .int .i64 k := lh.dep 7 rfl; simp [execOp, Act.eval, e16, e17, go_sem], rfl⟩) ?_
              refine .cons (owes_move (.tmp 18) (.inl rfl) fun q u lh => ⟨wants_free rfl, lh.dep 8 rfl⟩) ?_
              refine .cons (owes_move (.tmp 3) (.inl rfl) fun q u lh => ⟨lh.wants1 9 false rfl rfl rfl, lh.old 3 rfl⟩) ?_
              refine .cons (owes_value fun q u lh => ⟨lh.wants1 9 false rfl rfl rfl, .bool true, by have e20 : q.tmps.getD 20 undef = .int .i64 k := lh.dep 10 rfl; simp [execOp, Act.eval, e20, kn, go_sem], rfl⟩) ?_
              refine .cons (owes_move (.tmp 21) (.inl rfl) fun q u lh => ⟨lh.wants1 9 false rfl rfl rfl, lh.dep 11 rfl⟩) ?_
              refine .cons (owes_move (.tmp 0) (.inl rfl) fun q u lh => ⟨lh.wants1 12 true rfl rfl rfl, lh.old 0 rfl⟩) ?_
              refine .cons (owes_move (.tmp 3) (.inl rfl) fun q u lh => ⟨lh.wants1 12 true rfl rfl rfl, lh.old 3 rfl⟩) ?_
              refine .cons (owes_value fun q u lh => ⟨lh.wants1 12 true rfl rfl rfl, .int .i64 m, by have e24 : q.tmps.getD 24 undef = .int .i64 k := lh.dep 14 rfl; have z1 : IntKind.i64.wrap ((k : Int) - 1) = m := (by rw [KM.out]; exact i64_wf (by omega) (by omega)); simp [execOp, Act.eval, e24, z1, go_sem], rfl⟩) ?_
              refine .cons (owes_value fun q u lh => ⟨lh.wants1 12 true rfl rfl rfl, .pointer (some ⟨b, off + m * 7, none⟩), by have e23 : q.tmps.getD 23 undef = .slice (some ⟨b, off, none⟩) n c := lh.dep 13 rfl; have e25 : q.tmps.getD 25 undef = .int .i64 m := lh.dep 15 rfl; simp [execOp, Act.eval, e23, e25, mp, go_sem], rfl⟩) ?_
              refine .cons (owes_value fun q u lh => ⟨lh.wants1 12 true rfl rfl rfl, .agg #[.int .i64 y0, .int .i64 y1, .int .i64 y2, .int .i64 y3, .int .i64 y4, .int .i64 y5, .int .i64 y6], by have e26 : q.tmps.getD 26 undef = .pointer (some ⟨b, off + m * 7, none⟩) := lh.dep 16 rfl; obtain ⟨z0, z1, z2, z3, z4, z5, z6⟩ := Y.out.below lh.below; simp [execOp, Act.eval, e26, z0, z1, z2, z3, z4, z5, z6, go_sem], rfl⟩) ?_
              refine .cons (owes_move (.tmp 0) (.inl rfl) fun q u lh => ⟨lh.wants1 12 true rfl rfl rfl, lh.old 0 rfl⟩) ?_
              refine .cons (owes_move (.tmp 3) (.inl rfl) fun q u lh => ⟨lh.wants1 12 true rfl rfl rfl, lh.old 3 rfl⟩) ?_
              refine .cons (owes_value fun q u lh => ⟨lh.wants1 12 true rfl rfl rfl, .pointer (some ⟨b, off + k * 7, none⟩), by have e28 : q.tmps.getD 28 undef = .slice (some ⟨b, off, none⟩) n c := lh.dep 18 rfl; have e29 : q.tmps.getD 29 undef = .int .i64 k := lh.dep 19 rfl; simp [execOp, Act.eval, e28, e29, i1, go_sem], rfl⟩) ?_
              refine .cons (owes_value fun q u lh => ⟨lh.wants1 12 true rfl rfl rfl, .agg #[.int .i64 x0, .int .i64 x1, .int .i64 x2, .int .i64 x3, .int .i64 x4, .int .i64 x5, .int .i64 x6], by have e30 : q.tmps.getD 30 undef = .pointer (some ⟨b, off + k * 7, none⟩) := lh.dep 20 rfl; obtain ⟨z0, z1, z2, z3, z4, z5, z6⟩ := C.out.below lh.below; simp [execOp, Act.eval, e30, z0, z1, z2, z3, z4, z5, z6, go_sem], rfl⟩) ?_
              refine .cons (owes_call 21 Try.func21 (by kernel_rfl) (by kernel_rfl) [.tmp 27, .tmp 31] #[34, 34] rfl fun q u lh => ⟨lh.wants1 12 true rfl rfl rfl, by have e27 : q.tmps.getD 27 undef = .agg #[.int .i64 y0, .int .i64 y1, .int .i64 y2, .int .i64 y3, .int .i64 y4, .int .i64 y5, .int .i64 y6] := lh.dep 17 rfl; have e31 : q.tmps.getD 31 undef = .agg #[.int .i64 x0, .int .i64 x1, .int .i64 x2, .int .i64 x3, .int .i64 x4, .int .i64 x5, .int .i64 x6] := lh.dep 21 rfl; show Calls Try.prog 21 #[q.tmps.getD 27 undef, q.tmps.getD 31 undef] u _; rw [e27, e31]; exact bool_fact (A.out u)⟩) ?_
              refine .cons (owes_value fun q u lh => ⟨lh.wants1 12 true rfl rfl rfl, .bool true, by have e32 : q.tmps.getD 32 undef = .bool false := lh.dep 22 rfl; simp [execOp, Act.eval, e32, go_sem], rfl⟩) ?_
              refine .cons (owes_pick (.tmp 22) (.tmp 33) (.const (.bool false)) rfl fun q u lh => ⟨lh.wants1 9 false rfl rfl rfl, true, lh.dep 12 rfl, lh.dep 23 rfl⟩) ?_
              refine .cons (owes_pick (.tmp 19) (.const (.bool true)) (.tmp 34) rfl fun q u lh => ⟨wants_free rfl, false, lh.dep 9 rfl, lh.dep 24 rfl⟩) ?_
              exact .nil _
            intro q u hb hsz hdf hold hfact
            obtain rfl := frame_puts hsz hdf [10, 11, 12, 13, 14, 15, 16, 17, 18, 19, 20, 21, 22, 23, 24, 25, 26, 27, 28, 29, 30, 31, 32, 33, 34, 35] hold [(10, Value.slice (some ⟨b, off, none⟩) n c), (11, Value.slice (some ⟨b, off, none⟩) n c), (12, Value.int .i64 k), (13, Value.pointer (some ⟨b, off + k * 7, none⟩)), (14, Value.pointer (some ⟨b, off + k * 7, none⟩)), (15, Value.int .i64 x0), (16, Value.int .i64 k), (17, Value.int .i64 k), (18, Value.bool false), (19, Value.bool false), (20, Value.int .i64 k), (21, Value.bool true), (22, Value.bool true), (23, Value.slice (some ⟨b, off, none⟩) n c), (24, Value.int .i64 k), (25, Value.int .i64 m), (26, Value.pointer (some ⟨b, off + m * 7, none⟩)), (27, Value.agg #[.int .i64 y0, .int .i64 y1, .int .i64 y2, .int .i64 y3, .int .i64 y4, .int .i64 y5, .int .i64 y6]), (28, Value.slice (some ⟨b, off, none⟩) n c), (29, Value.int .i64 k), (30, Value.pointer (some ⟨b, off + k * 7, none⟩)), (31, Value.agg #[.int .i64 x0, .int .i64 x1, .int .i64 x2, .int .i64 x3, .int .i64 x4, .int .i64 x5, .int .i64 x6]), (32, Value.bool false), (33, Value.bool true), (34, Value.bool true), (35, Value.bool true)] ⟨hfact 0 (by decide), hfact 1 (by decide), hfact 2 (by decide), hfact 3 (by decide), hfact 4 (by decide), hfact 5 (by decide), hfact 6 (by decide), hfact 7 (by decide), hfact 8 (by decide), hfact 9 (by decide), hfact 10 (by decide), hfact 11 (by decide), hfact 12 (by decide), hfact 13 (by decide), hfact 14 (by decide), hfact 15 (by decide), hfact 16 (by decide), hfact 17 (by decide), hfact 18 (by decide), hfact 19 (by decide), hfact 20 (by decide), hfact 21 (by decide), hfact 22 (by decide), hfact 23 (by decide), hfact 24 (by decide), hfact 25 (by decide), trivial⟩ rfl
            clear hsz hdf hold hfact
            simp only [puts, Act.put, List.setIfInBounds_toArray, List.set_cons_zero, List.set_cons_succ]
            have B4 : Hid (Below w.heap.size w u) := HB.out.trans (hb.mono HB.out.size)
            clear hb
            go_wp2
            go_ret
            exact ⟨rt_bool HS.out, B4.out⟩
    · obtain rfl : k = n := by omega
      have HS : Hid (decide ((k : Int) ≤ 40) = qIs L) := qIs_end HN.out HQ.out
      go_wp2
      go_ret
      exact ⟨rt_bool HS.out, HB.out⟩

theorem refIs_any7 (a : Option Addr) (n c : Nat) (L : List P7) (w : World) (h : PGood w a n c L) (hm : n ≤ 100000) :
    Calls Try.prog 7 #[.slice a n c] w fun e w' => e = .returned (.bool (qIs L)) ∧ Below w.heap.size w w' := by
  have hl := h.len
  rcases h.pays.2 with h0 | ⟨b, off, rfl, hc⟩
  · subst h0
    have : n = 0 := by simpa using hl
    subst this
    refine (refIs_none a c w).mono ?_
    rintro e w' ⟨rfl, rfl⟩
    exact ⟨rfl, Below.refl _ _⟩
  · exact refIs_row b off n c L w hm h (fun i hi => hc i (by omega))

end Go.Proofs.Ytmfmdicdbjghkaa
