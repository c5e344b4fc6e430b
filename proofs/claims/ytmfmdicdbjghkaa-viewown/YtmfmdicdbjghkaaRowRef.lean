/-
  giroref13.behind, Put, Front, Back, Class.
-/
import Derived.Test.YtmfmdicdbjghkaaRowRefDrop
namespace Go.Proofs.Ytmfmdicdbjghkaa
open Go.RowKit
set_option linter.unusedVariables false
set_option linter.unusedSimpArgs false


theorem beh_of {L : List P7} {p : P7} {k : Nat} (hk : k ≤ L.length) (h1 : ∀ t, t < k → qLe (L.getD t p70) p = true) (h2 : k < L.length → qLe (L.getD k p70) p = false) : qBeh L p = k :=
  findIdx_of hk (fun t ht => by rw [h1 t ht]; rfl) (fun h => by rw [h2 h]; rfl)
theorem ahd_of {L : List P7} {p : P7} {k : Nat} (hk : k ≤ L.length) (h1 : ∀ t, t < k → qLe p (L.getD t p70) = false) (h2 : k < L.length → qLe p (L.getD k p70) = true) : qAhd L p = k := findIdx_of hk h1 h2
set_option maxHeartbeats 4000000 in
set_option maxRecDepth 100000 in
theorem refBehind_any (a : Option Addr) (n c : Nat) (L : List P7) (p : P7) (w : World) (h : PGood w a n c L) (hm : n ≤ 100000) :
    Calls Try.prog 31 #[.slice a n c, p.val] w fun e w' => e = .returned (.int .i64 (qBeh L p : Nat)) ∧ Below w.heap.size w w' := by
  obtain ⟨p0, p1, p2, p3, p4, p5, p6⟩ := p
  obtain ⟨w1, hw1⟩ : ∃ w1, w1 = w.alloc (.cells #[.int .i64 p0, .int .i64 p1, .int .i64 p2, .int .i64 p3, .int .i64 p4, .int .i64 p5, .int .i64 p6] 34) := ⟨_, rfl⟩
  have HB1 : Hid (Below w.heap.size w w1) := by rw [hw1]; exact box_below _ _
  have X1 : Hid (At7 w1 w.heap.size 0 (p0, p1, p2, p3, p4, p5, p6)) := by rw [hw1]; exact At7.new w (p0, p1, p2, p3, p4, p5, p6) _ _
  have H : Hid (PGood w1 a n c L) := h.below HB1.out
  have HN : Hid (n = L.length) := h.len
  have HW : Hid (w1 = _) := hw1
  clear h hw1
  go_enter Try.func31, Try.ntmps31
  go_wp2
  rw [← HW.out]
  clear HW
  go_loopw [5] (fun i wr => ∃ k : Nat, k ≤ n ∧ i = .int .i64 k ∧ Hid (∀ t, t < k → qLe (L.getD t p70) (p0, p1, p2, p3, p4, p5, p6) = true) ∧ Hid (Below w1.heap.size w1 wr)) (fun i _ => n - (intOf i).toNat)
  case atStart => exact ⟨0, by omega, rfl, fun t ht => absurd ht (Nat.not_lt_zero _), Below.refl _ _⟩
  case round =>
    obtain ⟨k, hk, rfl, HL, HB⟩ := hrel
    by_cases hlt : k < n
    · obtain ⟨b, off, rfl, HC⟩ := H.out.at hlt
      have i1 : (k : Int) < (n : Int) := by omega
      have C0 := (HC k hlt).below HB.out
      have X2 : Hid (At7 wr w.heap.size 0 (p0, p1, p2, p3, p4, p5, p6)) := X1.out.below HB.out
      obtain ⟨x, hx⟩ : ∃ x, L.getD k p70 = x := ⟨_, rfl⟩
      rw [hx] at C0
      have HX : Hid (L.getD k p70 = x) := hx
      obtain ⟨x0, x1, x2, x3, x4, x5, x6⟩ := x
      have C : Hid (At7 wr b (off + k * 7) (x0, x1, x2, x3, x4, x5, x6)) := C0
      have A := fun u => refAhead_any (x0, x1, x2, x3, x4, x5, x6) (p0, p1, p2, p3, p4, p5, p6) u
      clear C0 hx HC H X1
      cases hq : qLe (x0, x1, x2, x3, x4, x5, x6) (p0, p1, p2, p3, p4, p5, p6) with
      | true =>
        simp only [hq] at A
        have HQ : Hid (qLe (x0, x1, x2, x3, x4, x5, x6) (p0, p1, p2, p3, p4, p5, p6) = true) := hq
        have A' : Hid (∀ u, Calls Try.prog 21 #[P7.val (x0, x1, x2, x3, x4, x5, x6), P7.val (p0, p1, p2, p3, p4, p5, p6)] u fun e w' => e = .returned (.bool true) ∧ Below u.heap.size u w') := A
        clear A hq
        go_wp2_with fail
        refine region_owes (L := [Fact.is (.int .i64 k),
          Fact.is (.slice (some ⟨b, off, none⟩) n c),
          Fact.is (.int .i64 n),
          Fact.is (.bool true),
          Fact.is (.bool true),
          Fact.is (.slice (some ⟨b, off, none⟩) n c),
          Fact.is (.int .i64 k),
          Fact.is (.pointer (some ⟨b, off + k * 7, none⟩)),
          Fact.is (.agg #[.int .i64 x0, .int .i64 x1, .int .i64 x2, .int .i64 x3, .int .i64 x4, .int .i64 x5, .int .i64 x6]),
          Fact.is (.agg #[.int .i64 p0, .int .i64 p1, .int .i64 p2, .int .i64 p3, .int .i64 p4, .int .i64 p5, .int .i64 p6]),
          Fact.is (.bool true),
          Fact.is (.bool true)])
          (T := [6, 7, 8, 9, 10, 11, 12, 13, 14, 15, 16, 17]) (by kernel_rfl) (by kernel_rfl) rfl ?owes ?_
        case owes =>
          refine .cons (owes_move (.tmp 5) (.inl rfl) fun q u lh => ⟨wants_free rfl, lh.old 5 rfl⟩) ?_
          refine .cons (owes_move (.tmp 0) (.inl rfl) fun q u lh => ⟨wants_free rfl, lh.old 0 rfl⟩) ?_
          refine .cons (owes_value fun q u lh => ⟨wants_free rfl, .int .i64 n, by have e7 : q.tmps.getD 7 undef = .slice (some ⟨b, off, none⟩) n c := lh.dep 1 rfl; simp [execOp, Act.eval, e7, go_sem], rfl⟩) ?_
          refine .cons (owes_value fun q u lh => ⟨wants_free rfl, .bool true, by have e6 : q.tmps.getD 6 undef = .int .i64 k := lh.dep 0 rfl; have e8 : q.tmps.getD 8 undef = .int .i64 n := lh.dep 2 rfl; simp [execOp, Act.eval, e6, e8, hlt, go_sem], rfl⟩) ?_
          refine .cons (owes_move (.tmp 9) (.inl rfl) fun q u lh => ⟨wants_free rfl, lh.dep 3 rfl⟩) ?_
          refine .cons (owes_move (.tmp 0) (.inl rfl) fun q u lh => ⟨lh.wants1 4 true rfl rfl rfl, lh.old 0 rfl⟩) ?_
          refine .cons (owes_move (.tmp 5) (.inl rfl) fun q u lh => ⟨lh.wants1 4 true rfl rfl rfl, lh.old 5 rfl⟩) ?_
          refine .cons (owes_value fun q u lh => ⟨lh.wants1 4 true rfl rfl rfl, .pointer (some ⟨b, off + k * 7, none⟩), by have e11 : q.tmps.getD 11 undef = .slice (some ⟨b, off, none⟩) n c := lh.dep 5 rfl; have e12 : q.tmps.getD 12 undef = .int .i64 k := lh.dep 6 rfl; simp [execOp, Act.eval, e11, e12, i1, go_sem], rfl⟩) ?_
          refine .cons (owes_value fun q u lh => ⟨lh.wants1 4 true rfl rfl rfl, .agg #[.int .i64 x0, .int .i64 x1, .int .i64 x2, .int .i64 x3, .int .i64 x4, .int .i64 x5, .int .i64 x6], by have e13 : q.tmps.getD 13 undef = .pointer (some ⟨b, off + k * 7, none⟩) := lh.dep 7 rfl; obtain ⟨z0, z1, z2, z3, z4, z5, z6⟩ := C.out.below lh.below; simp [execOp, Act.eval, e13, z0, z1, z2, z3, z4, z5, z6, go_sem], rfl⟩) ?_
          refine .cons (owes_value fun q u lh => ⟨lh.wants1 4 true rfl rfl rfl, .agg #[.int .i64 p0, .int .i64 p1, .int .i64 p2, .int .i64 p3, .int .i64 p4, .int .i64 p5, .int .i64 p6], by have e3 : q.tmps.getD 3 undef = .pointer (some ⟨w.heap.size, 0, none⟩) := lh.old 3 rfl; obtain ⟨z0, z1, z2, z3, z4, z5, z6⟩ := X2.out.below lh.below; simp [execOp, Act.eval, e3, z0, z1, z2, z3, z4, z5, z6, go_sem], rfl⟩) ?_
          refine .cons (owes_call 21 Try.func21 (by kernel_rfl) (by kernel_rfl) [.tmp 14, .tmp 15] #[34, 34] rfl fun q u lh => ⟨lh.wants1 4 true rfl rfl rfl, by have e14 : q.tmps.getD 14 undef = .agg #[.int .i64 x0, .int .i64 x1, .int .i64 x2, .int .i64 x3, .int .i64 x4, .int .i64 x5, .int .i64 x6] := lh.dep 8 rfl; have e15 : q.tmps.getD 15 undef = .agg #[.int .i64 p0, .int .i64 p1, .int .i64 p2, .int .i64 p3, .int .i64 p4, .int .i64 p5, .int .i64 p6] := lh.dep 9 rfl; show Calls Try.prog 21 #[q.tmps.getD 14 undef, q.tmps.getD 15 undef] u _; rw [e14, e15]; exact bool_fact (A'.out u)⟩) ?_
          refine .cons (owes_pick (.tmp 10) (.tmp 16) (.const (.bool false)) rfl fun q u lh => ⟨wants_free rfl, true, lh.dep 4 rfl, lh.dep 10 rfl⟩) ?_
          exact .nil _
        intro q u hb hsz hdf hold hfact
        obtain rfl := frame_puts hsz hdf [6, 7, 8, 9, 10, 11, 12, 13, 14, 15, 16, 17] hold [(6, Value.int .i64 k), (7, Value.slice (some ⟨b, off, none⟩) n c), (8, Value.int .i64 n), (9, Value.bool true), (10, Value.bool true), (11, Value.slice (some ⟨b, off, none⟩) n c), (12, Value.int .i64 k), (13, Value.pointer (some ⟨b, off + k * 7, none⟩)), (14, Value.agg #[.int .i64 x0, .int .i64 x1, .int .i64 x2, .int .i64 x3, .int .i64 x4, .int .i64 x5, .int .i64 x6]), (15, Value.agg #[.int .i64 p0, .int .i64 p1, .int .i64 p2, .int .i64 p3, .int .i64 p4, .int .i64 p5, .int .i64 p6]), (16, Value.bool true), (17, Value.bool true)] ⟨hfact 0 (by decide), hfact 1 (by decide), hfact 2 (by decide), hfact 3 (by decide), hfact 4 (by decide), hfact 5 (by decide), hfact 6 (by decide), hfact 7 (by decide), hfact 8 (by decide), hfact 9 (by decide), hfact 10 (by decide), hfact 11 (by decide), trivial⟩ rfl
        clear hsz hdf hold hfact
        simp only [puts, Act.put, List.setIfInBounds_toArray, List.set_cons_zero, List.set_cons_succ]
        have B4 : Hid (Below w1.heap.size w1 u) := HB.out.trans (hb.mono HB.out.size)
        clear hb C X2
        go_wp2
        go_roundw
        case rel =>
          refine ⟨k + 1, by omega, by go_num, fun t ht => ?_, B4⟩
          by_cases htk : t < k
          · exact HL.out t htk
          · obtain rfl : t = k := by omega
            rw [HX.out]
            exact HQ.out
        case measure => simp [intOf]; omega
      | false =>
        simp only [hq] at A
        have HD : Hid ((k : Int) = (qBeh L (p0, p1, p2, p3, p4, p5, p6) : Nat)) := by
          show (k : Int) = _
          rw [beh_of (by have := HN.out; omega) HL.out (fun _ => by rw [HX.out]; exact hq)]
        have A' : Hid (∀ u, Calls Try.prog 21 #[P7.val (x0, x1, x2, x3, x4, x5, x6), P7.val (p0, p1, p2, p3, p4, p5, p6)] u fun e w' => e = .returned (.bool false) ∧ Below u.heap.size u w') := A
        clear A hq
        go_wp2_with fail
        refine region_owes (L := [Fact.is (.int .i64 k),
          Fact.is (.slice (some ⟨b, off, none⟩) n c),
          Fact.is (.int .i64 n),
          Fact.is (.bool true),
          Fact.is (.bool true),
          Fact.is (.slice (some ⟨b, off, none⟩) n c),
          Fact.is (.int .i64 k),
          Fact.is (.pointer (some ⟨b, off + k * 7, none⟩)),
          Fact.is (.agg #[.int .i64 x0, .int .i64 x1, .int .i64 x2, .int .i64 x3, .int .i64 x4, .int .i64 x5, .int .i64 x6]),
          Fact.is (.agg #[.int .i64 p0, .int .i64 p1, .int .i64 p2, .int .i64 p3, .int .i64 p4, .int .i64 p5, .int .i64 p6]),
          Fact.is (.bool false),
          Fact.is (.bool false)])
          (T := [6, 7, 8, 9, 10, 11, 12, 13, 14, 15, 16, 17]) (by kernel_rfl) (by kernel_rfl) rfl ?owes ?_
        case owes =>
          refine .cons (owes_move (.tmp 5) (.inl rfl) fun q u lh => ⟨wants_free rfl, lh.old 5 rfl⟩) ?_
          refine .cons (owes_move (.tmp 0) (.inl rfl) fun q u lh => ⟨wants_free rfl, lh.old 0 rfl⟩) ?_
          refine .cons (owes_value fun q u lh => ⟨wants_free rfl, .int .i64 n, by have e7 : q.tmps.getD 7 undef = .slice (some ⟨b, off, none⟩) n c := lh.dep 1 rfl; simp [execOp, Act.eval, e7, go_sem], rfl⟩) ?_
          refine .cons (owes_value fun q u lh => ⟨wants_free rfl, .bool true, by have e6 : q.tmps.getD 6 undef = .int .i64 k := lh.dep 0 rfl; have e8 : q.tmps.getD 8 undef = .int .i64 n := lh.dep 2 rfl; simp [execOp, Act.eval, e6, e8, hlt, go_sem], rfl⟩) ?_
          refine .cons (owes_move (.tmp 9) (.inl rfl) fun q u lh => ⟨wants_free rfl, lh.dep 3 rfl⟩) ?_
          refine .cons (owes_move (.tmp 0) (.inl rfl) fun q u lh => ⟨lh.wants1 4 true rfl rfl rfl, lh.old 0 rfl⟩) ?_
          refine .cons (owes_move (.tmp 5) (.inl rfl) fun q u lh => ⟨lh.wants1 4 true rfl rfl rfl, lh.old 5 rfl⟩) ?_
          refine .cons (owes_value fun q u lh => ⟨lh.wants1 4 true rfl rfl rfl, .pointer (some ⟨b, off + k * 7, none⟩), by have e11 : q.tmps.getD 11 undef = .slice (some ⟨b, off, none⟩) n c := lh.dep 5 rfl; have e12 : q.tmps.getD 12 undef = .int .i64 k := lh.dep 6 rfl; simp [execOp, Act.eval, e11, e12, i1, go_sem], rfl⟩) ?_
          refine .cons (owes_value fun q u lh => ⟨lh.wants1 4 true rfl rfl rfl, .agg #[.int .i64 x0, .int .i64 x1, .int .i64 x2, .int .i64 x3, .int .i64 x4, .int .i64 x5, .int .i64 x6], by have e13 : q.tmps.getD 13 undef = .pointer (some ⟨b, off + k * 7, none⟩) := lh.dep 7 rfl; obtain ⟨z0, z1, z2, z3, z4, z5, z6⟩ := C.out.below lh.below; simp [execOp, Act.eval, e13, z0, z1, z2, z3, z4, z5, z6, go_sem], rfl⟩) ?_
          refine .cons (owes_value fun q u lh => ⟨lh.wants1 4 true rfl rfl rfl, .agg #[.int .i64 p0, .int .i64 p1, .int .i64 p2, .int .i64 p3, .int .i64 p4, .int .i64 p5, .int .i64 p6], by have e3 : q.tmps.getD 3 undef = .pointer (some ⟨w.heap.size, 0, none⟩) := lh.old 3 rfl; obtain ⟨z0, z1, z2, z3, z4, z5, z6⟩ := X2.out.below lh.below; simp [execOp, Act.eval, e3, z0, z1, z2, z3, z4, z5, z6, go_sem], rfl⟩) ?_
          refine .cons (owes_call 21 Try.func21 (by kernel_rfl) (by kernel_rfl) [.tmp 14, .tmp 15] #[34, 34] rfl fun q u lh => ⟨lh.wants1 4 true rfl rfl rfl, by have e14 : q.tmps.getD 14 undef = .agg #[.int .i64 x0, .int .i64 x1, .int .i64 x2, .int .i64 x3, .int .i64 x4, .int .i64 x5, .int .i64 x6] := lh.dep 8 rfl; have e15 : q.tmps.getD 15 undef = .agg #[.int .i64 p0, .int .i64 p1, .int .i64 p2, .int .i64 p3, .int .i64 p4, .int .i64 p5, .int .i64 p6] := lh.dep 9 rfl; show Calls Try.prog 21 #[q.tmps.getD 14 undef, q.tmps.getD 15 undef] u _; rw [e14, e15]; exact bool_fact (A'.out u)⟩) ?_
          refine .cons (owes_pick (.tmp 10) (.tmp 16) (.const (.bool false)) rfl fun q u lh => ⟨wants_free rfl, true, lh.dep 4 rfl, lh.dep 10 rfl⟩) ?_
          exact .nil _
        intro q u hb hsz hdf hold hfact
        obtain rfl := frame_puts hsz hdf [6, 7, 8, 9, 10, 11, 12, 13, 14, 15, 16, 17] hold [(6, Value.int .i64 k), (7, Value.slice (some ⟨b, off, none⟩) n c), (8, Value.int .i64 n), (9, Value.bool true), (10, Value.bool true), (11, Value.slice (some ⟨b, off, none⟩) n c), (12, Value.int .i64 k), (13, Value.pointer (some ⟨b, off + k * 7, none⟩)), (14, Value.agg #[.int .i64 x0, .int .i64 x1, .int .i64 x2, .int .i64 x3, .int .i64 x4, .int .i64 x5, .int .i64 x6]), (15, Value.agg #[.int .i64 p0, .int .i64 p1, .int .i64 p2, .int .i64 p3, .int .i64 p4, .int .i64 p5, .int .i64 p6]), (16, Value.bool false), (17, Value.bool false)] ⟨hfact 0 (by decide), hfact 1 (by decide), hfact 2 (by decide), hfact 3 (by decide), hfact 4 (by decide), hfact 5 (by decide), hfact 6 (by decide), hfact 7 (by decide), hfact 8 (by decide), hfact 9 (by decide), hfact 10 (by decide), hfact 11 (by decide), trivial⟩ rfl
        clear hsz hdf hold hfact
        simp only [puts, Act.put, List.setIfInBounds_toArray, List.set_cons_zero, List.set_cons_succ]
        have B4 : Hid (Below w.heap.size w u) := HB1.out.trans ((HB.out.trans (hb.mono HB.out.size)).mono HB1.out.size)
        clear hb C X2
        go_wp2
        go_ret
        exact ⟨rt_int HD.out, B4.out⟩
    · obtain rfl : k = n := by omega
      have HD : Hid ((k : Int) = (qBeh L (p0, p1, p2, p3, p4, p5, p6) : Nat)) := by
        show (k : Int) = _
        rw [beh_of (by have := HN.out; omega) HL.out (fun h => by have := HN.out; omega)]
      have B4 : Hid (∀ q, Below w.heap.size w (wr.drewN q)) := fun q => HB1.out.trans ((HB.out.trans ((drawn_below wr q).mono HB.out.size)).mono HB1.out.size)
      clear H X1
      go_wp2
      go_quiet (fail)
      go_wp2
      go_ret
      exact ⟨rt_int HD.out, B4.out _⟩

set_option maxHeartbeats 4000000 in
theorem refPut_no (a : Option Addr) (n c : Nat) (L : List P7) (p : P7) (w : World) (h : PGood w a n c L) (hm : n ≤ 100000) (hh : qHas L p.id = true ∨ 40 ≤ L.length) :
    Calls Try.prog 29 #[.slice a n c, p.val] w (RPutEnd w (qPut L p) (qPutE L p)) := by
  have F := fun u (hb : Below w.heap.size w u) => refFind_any a n c p.id L u (by omega) (h.below hb).pays
  have hl := h.len
  have r1 := qFind_nn L p.id
  obtain ⟨r, hr⟩ : ∃ r, qFind L p.id = r := ⟨_, rfl⟩
  rw [hr] at r1
  simp only [hr] at F
  cases hq : qHas L p.id with
  | true =>
    rw [(put_has hq).1, (put_has hq).2]
    rw [hq] at r1
    have r2 : 0 ≤ r := of_decide_eq_true r1
    obtain ⟨p0, p1, p2, p3, p4, p5, p6⟩ := p
    have R : Hid (RPutEnd w L 6 (.returned (.tuple #[.slice a n c, .int .i64 6])) (w.alloc (.cells #[.int .i64 p0, .int .i64 p1, .int .i64 p2, .int .i64 p3, .int .i64 p4, .int .i64 p5, .int .i64 p6] 34))) := ⟨a, c, by rw [← hl], by rw [← hl]; exact h.below (box_below _ _), box_below _ _⟩
    have F1 := F _ (box_below w (.cells #[.int .i64 p0, .int .i64 p1, .int .i64 p2, .int .i64 p3, .int .i64 p4, .int .i64 p5, .int .i64 p6] 34))
    clear hq hh r1 hl h hr F
    go_enter Try.func29, Try.ntmps29
    go_wp2_with fail
    go_at_call 20
    refine F1.mono ?_
    rintro e w1 ⟨rfl, hw⟩
    obtain rfl := hw
    clear F1
    go_wp2
    go_ret2
    exact R.out
  | false =>
    have hf : 40 ≤ L.length := by
      rcases hh with hh | hh
      · rw [hq] at hh; cases hh
      · exact hh
    rw [(put_full hq hf).1, (put_full hq hf).2]
    rw [hq] at r1
    have r2 : ¬ 0 ≤ r := of_decide_eq_false r1
    have hn4 : (40 : Int) ≤ (n : Int) := by omega
    obtain ⟨p0, p1, p2, p3, p4, p5, p6⟩ := p
    have R : Hid (RPutEnd w L 3 (.returned (.tuple #[.slice a n c, .int .i64 3])) (w.alloc (.cells #[.int .i64 p0, .int .i64 p1, .int .i64 p2, .int .i64 p3, .int .i64 p4, .int .i64 p5, .int .i64 p6] 34))) := ⟨a, c, by rw [← hl], by rw [← hl]; exact h.below (box_below _ _), box_below _ _⟩
    have F1 := F _ (box_below w (.cells #[.int .i64 p0, .int .i64 p1, .int .i64 p2, .int .i64 p3, .int .i64 p4, .int .i64 p5, .int .i64 p6] 34))
    clear hq hh r1 hl h hr F hf
    go_enter Try.func29, Try.ntmps29
    go_wp2_with fail
    go_at_call 20
    refine F1.mono ?_
    rintro e w1 ⟨rfl, hw⟩
    obtain rfl := hw
    clear F1
    go_wp2
    go_ret2
    exact R.out

set_option maxHeartbeats 4000000 in
set_option maxRecDepth 100000 in
theorem refPut_ins (a : Option Addr) (n c : Nat) (L : List P7) (p : P7) (w : World) (h : PGood w a n c L) (hh : qHas L p.id = false) (hf : L.length < 40) :
    Calls Try.prog 29 #[.slice a n c, p.val] w (RPutEnd w (qPut L p) (qPutE L p)) := by
  have hl := h.len
  have F := fun u (hb : Below w.heap.size w u) => refFind_any a n c p.id L u (by omega) (h.below hb).pays
  have S := fun u (hb : Below w.heap.size w u) => refBehind_any a n c L p u (h.below hb) (by omega)
  have W := fun u (hb : Below w.heap.size w u) => refInsert_any a n c (qBeh L p) L p u (h.below hb) (by omega) (by have := qBeh_le L p; omega)
  unfold RPutEnd
  rw [(put_ins hh hf).1, (put_ins hh hf).2]
  have r1 := qFind_nn L p.id
  rw [hh] at r1
  obtain ⟨r, hr⟩ : ∃ r, qFind L p.id = r := ⟨_, rfl⟩
  rw [hr] at r1
  simp only [hr] at F
  have r2 : ¬ 0 ≤ r := of_decide_eq_false r1
  obtain ⟨k, hk⟩ : ∃ k, qBeh L p = k := ⟨_, rfl⟩
  rw [hk] at S W ⊢
  have hn4 : (n : Int) < (40 : Int) := by omega
  obtain ⟨p0, p1, p2, p3, p4, p5, p6⟩ := p
  obtain ⟨w1, hw1⟩ : ∃ w1, w1 = w.alloc (.cells #[.int .i64 p0, .int .i64 p1, .int .i64 p2, .int .i64 p3, .int .i64 p4, .int .i64 p5, .int .i64 p6] 34) := ⟨_, rfl⟩
  have HB : Hid (Below w.heap.size w w1) := by rw [hw1]; exact box_below _ _
  have HX : Hid (At7 w1 w.heap.size 0 (p0, p1, p2, p3, p4, p5, p6)) := by rw [hw1]; exact At7.new w (p0, p1, p2, p3, p4, p5, p6) _ _
  have F1 := F w1 HB.out
  rw [hw1] at F1
  have HW : Hid (w1 = _) := hw1
  clear hh r1 hl h hr F hf hk hw1
  go_enter Try.func29, Try.ntmps29
  go_wp2_with fail
  go_at_call 20
  refine F1.mono ?_
  rintro e w2 ⟨rfl, hw2⟩
  rw [← HW.out] at hw2
  obtain rfl := hw2.symm
  clear F1 HW
  go_wp2_with fail
  refine region_owes (L := [Fact.is (.slice a n c),
    Fact.is (.slice a n c),
    Fact.is (.agg #[.int .i64 p0, .int .i64 p1, .int .i64 p2, .int .i64 p3, .int .i64 p4, .int .i64 p5, .int .i64 p6]),
    Fact.is (.int .i64 k),
    Fact.is (.agg #[.int .i64 p0, .int .i64 p1, .int .i64 p2, .int .i64 p3, .int .i64 p4, .int .i64 p5, .int .i64 p6]),
    Fact.pnew w.heap.size (qIns L k (p0, p1, p2, p3, p4, p5, p6)),
    Fact.pnew w.heap.size (qIns L k (p0, p1, p2, p3, p4, p5, p6)),
    Fact.is (.int .i64 0)])
    (T := [16, 17, 18, 19, 20, 21, 4, 5]) (by kernel_rfl) (by kernel_rfl) rfl ?owes ?_
  case owes =>
    refine .cons (owes_move (.tmp 0) (.inl rfl) fun q u lh => ⟨wants_free rfl, lh.old 0 rfl⟩) ?_
    refine .cons (owes_move (.tmp 0) (.inl rfl) fun q u lh => ⟨wants_free rfl, lh.old 0 rfl⟩) ?_
    refine .cons (owes_value fun q u lh => ⟨wants_free rfl, .agg #[.int .i64 p0, .int .i64 p1, .int .i64 p2, .int .i64 p3, .int .i64 p4, .int .i64 p5, .int .i64 p6], by have e3 : q.tmps.getD 3 undef = .pointer (some ⟨w.heap.size, 0, none⟩) := lh.old 3 rfl; obtain ⟨z0, z1, z2, z3, z4, z5, z6⟩ := HX.out.below lh.below; simp [execOp, Act.eval, e3, z0, z1, z2, z3, z4, z5, z6, go_sem], rfl⟩) ?_
    refine .cons (owes_call 31 Try.func31 (by kernel_rfl) (by kernel_rfl) [.tmp 17, .tmp 18] #[22, 34] rfl fun q u lh => ⟨wants_free rfl, by have e17 : q.tmps.getD 17 undef = .slice a n c := lh.dep 1 rfl; have e18 : q.tmps.getD 18 undef = .agg #[.int .i64 p0, .int .i64 p1, .int .i64 p2, .int .i64 p3, .int .i64 p4, .int .i64 p5, .int .i64 p6] := lh.dep 2 rfl; show Calls Try.prog 31 #[q.tmps.getD 17 undef, q.tmps.getD 18 undef] u _; rw [e17, e18]; exact int_fact (S u (HB.out.trans (lh.below.mono HB.out.size)))⟩) ?_
    refine .cons (owes_value fun q u lh => ⟨wants_free rfl, .agg #[.int .i64 p0, .int .i64 p1, .int .i64 p2, .int .i64 p3, .int .i64 p4, .int .i64 p5, .int .i64 p6], by have e3 : q.tmps.getD 3 undef = .pointer (some ⟨w.heap.size, 0, none⟩) := lh.old 3 rfl; obtain ⟨z0, z1, z2, z3, z4, z5, z6⟩ := HX.out.below lh.below; simp [execOp, Act.eval, e3, z0, z1, z2, z3, z4, z5, z6, go_sem], rfl⟩) ?_
    refine .cons (owes_call 30 Try.func30 (by kernel_rfl) (by kernel_rfl) [.tmp 16, .tmp 19, .tmp 20] #[22, 3, 34] rfl fun q u lh => ⟨wants_free rfl, by have e16 : q.tmps.getD 16 undef = .slice a n c := lh.dep 0 rfl; have e19 : q.tmps.getD 19 undef = .int .i64 k := lh.dep 3 rfl; have e20 : q.tmps.getD 20 undef = .agg #[.int .i64 p0, .int .i64 p1, .int .i64 p2, .int .i64 p3, .int .i64 p4, .int .i64 p5, .int .i64 p6] := lh.dep 4 rfl; show Calls Try.prog 30 #[q.tmps.getD 16 undef, q.tmps.getD 19 undef, q.tmps.getD 20 undef] u _; rw [e16, e19, e20]; exact pend_fact (Nat.le_trans HB.out.size lh.below.size) (W u (HB.out.trans (lh.below.mono HB.out.size)))⟩) ?_
    refine .cons (owes_move (.tmp 21) (.inr rfl) fun q u lh => ⟨wants_free rfl, lh.dep 5 rfl⟩) ?_
    refine .cons (owes_value fun q u lh => ⟨wants_free rfl, .int .i64 0, by simp [execOp, Act.eval, go_sem], rfl⟩) ?_
    exact .nil _
  intro q u hb hsz hdf hold hfact
  obtain ⟨v21, e21⟩ : ∃ v, q.tmps.getD 21 undef = v := ⟨_, rfl⟩
  have f21 : (Fact.pnew w.heap.size (qIns L k (p0, p1, p2, p3, p4, p5, p6))).1 u v21 := by rw [← e21]; exact hfact 5 (by decide)
  obtain ⟨a4, m4, e4, g4, n4⟩ : (Fact.pnew w.heap.size (qIns L k (p0, p1, p2, p3, p4, p5, p6))).1 u (q.tmps.getD 4 undef) := hfact 6 (by decide)
  obtain rfl := frame_puts hsz hdf [16, 17, 18, 19, 20, 21, 4, 5] hold [(16, Value.slice a n c), (17, Value.slice a n c), (18, Value.agg #[.int .i64 p0, .int .i64 p1, .int .i64 p2, .int .i64 p3, .int .i64 p4, .int .i64 p5, .int .i64 p6]), (19, Value.int .i64 k), (20, Value.agg #[.int .i64 p0, .int .i64 p1, .int .i64 p2, .int .i64 p3, .int .i64 p4, .int .i64 p5, .int .i64 p6]), (21, v21), (4, Value.slice a4 (qIns L k (p0, p1, p2, p3, p4, p5, p6)).length m4), (5, Value.int .i64 0)] ⟨hfact 0 (by decide), hfact 1 (by decide), hfact 2 (by decide), hfact 3 (by decide), hfact 4 (by decide), e21, e4, hfact 7 (by decide), trivial⟩ rfl
  clear hsz hdf hold hfact
  simp only [puts, Act.put, List.setIfInBounds_toArray, List.set_cons_zero, List.set_cons_succ]
  have B3 : Hid (Below w.heap.size w u) := HB.out.trans (hb.mono HB.out.size)
  clear hb S W HX HB
  go_wp2
  go_ret2
  exact ⟨a4, m4, rfl, g4, B3.out⟩

theorem refPut_any (a : Option Addr) (n c : Nat) (L : List P7) (p : P7) (w : World) (h : PGood w a n c L) (hm : n ≤ 100000) :
    Calls Try.prog 29 #[.slice a n c, p.val] w (RPutEnd w (qPut L p) (qPutE L p)) := by
  cases hh : qHas L p.id with
  | true => exact refPut_no a n c L p w h hm (.inl hh)
  | false =>
    by_cases hf : 40 ≤ L.length
    · exact refPut_no a n c L p w h hm (.inr hf)
    · exact refPut_ins a n c L p w h hh (by omega)




end Go.Proofs.Ytmfmdicdbjghkaa
