/-
  giroref13.behind, Put, Front, Back, Class.
-/
import Derived.Test.YtjibnbheegcnkaaRowRefDrop
namespace Go.Proofs.Ytjibnbheegcnkaa
open Go.RowKit
set_option linter.unusedVariables false
set_option linter.unusedSimpArgs false

theorem refDrop_new (a : Option Addr) (n c : Nat) (L : List P7) (x : Int) (w : World) (h : PGood w a n c L) (hm : n ≤ 100000) :
    Calls Try.prog 11 #[.slice a n c, .int .i64 x] w (RDropNew w a (qDrop L x) (qDropP L x) (qDropE L x)) := by
  cases hh : qHas L x with
  | true => exact refDrop_yes a n c L x w h hm hh
  | false => exact refDrop_no a n c L x w h hm hh
theorem refDrop_any (a : Option Addr) (n c : Nat) (L : List P7) (x : Int) (w : World) (h : PGood w a n c L) (hm : n ≤ 100000) :
    Calls Try.prog 11 #[.slice a n c, .int .i64 x] w (RDropEnd w (qDrop L x) (qDropP L x) (qDropE L x)) :=
  (refDrop_new a n c L x w h hm).mono fun e w' h => h.end

theorem beh_of {L : List P7} {p : P7} {k : Nat} (hk : k ≤ L.length) (h1 : ∀ t, t < k → qLe (L.getD t p70) p = true) (h2 : k < L.length → qLe (L.getD k p70) p = false) : qBeh L p = k :=
  findIdx_of hk (fun t ht => by rw [h1 t ht]; rfl) (fun h => by rw [h2 h]; rfl)
theorem ahd_of {L : List P7} {p : P7} {k : Nat} (hk : k ≤ L.length) (h1 : ∀ t, t < k → qLe p (L.getD t p70) = false) (h2 : k < L.length → qLe p (L.getD k p70) = true) : qAhd L p = k := findIdx_of hk h1 h2
set_option maxHeartbeats 4000000 in
set_option maxRecDepth 100000 in
theorem refBehind_any (a : Option Addr) (n c : Nat) (L : List P7) (p : P7) (w : World) (h : PGood w a n c L) (hm : n ≤ 100000) :
    Calls Try.prog 28 #[.slice a n c, p.val] w fun e w' => e = .returned (.int .i64 (qBeh L p : Nat)) ∧ Below w.heap.size w w' := by
  obtain ⟨p0, p1, p2, p3, p4, p5, p6⟩ := p
  obtain ⟨w1, hw1⟩ : ∃ w1, w1 = w.alloc (.cells #[.int .i64 p0, .int .i64 p1, .int .i64 p2, .int .i64 p3, .int .i64 p4, .int .i64 p5, .int .i64 p6] 25) := ⟨_, rfl⟩
  have HB1 : Hid (Below w.heap.size w w1) := by rw [hw1]; exact box_below _ _
  have X1 : Hid (At7 w1 w.heap.size 0 (p0, p1, p2, p3, p4, p5, p6)) := by rw [hw1]; exact At7.new w (p0, p1, p2, p3, p4, p5, p6) _ _
  have H : Hid (PGood w1 a n c L) := h.below HB1.out
  have HN : Hid (n = L.length) := h.len
  have HW : Hid (w1 = _) := hw1
  clear h hw1
  go_enter Try.func28, Try.ntmps28
  go_wp2
  rw [← HW.out]
  clear HW
  go_loopw [5] (fun i wr => ∃ k : Nat, k ≤ n ∧ i = .int .i64 k ∧ Hid (∀ t, t < k → qLe (L.getD t p70) (p0, p1, p2, p3, p4, p5, p6) = true) ∧ Hid (Below w1.heap.size w1 wr)) (fun i _ => n - (intOf i).toNat)
  case atStart => exact ⟨0, by omega, rfl, fun t ht => absurd ht (Nat.not_lt_zero _), Below.refl _ _⟩
  case round =>
    obtain ⟨k, hk, rfl, HL, HB⟩ := hrel
    by_cases hlt : k < n
    · obtain ⟨b, off, rfl, HC⟩ := H.out.at hlt
      have i1 : (k : Int) < (n : Int) := by omega
      have C0 := (HC k hlt).below HB.out
      have X2 : Hid (At7 wr w.heap.size 0 (p0, p1, p2, p3, p4, p5, p6)) := X1.out.below HB.out
      obtain ⟨x, hx⟩ : ∃ x, L.getD k p70 = x := ⟨_, rfl⟩
      rw [hx] at C0
      have HX : Hid (L.getD k p70 = x) := hx
      obtain ⟨x0, x1, x2, x3, x4, x5, x6⟩ := x
      have C : Hid (At7 wr b (off + k * 7) (x0, x1, x2, x3, x4, x5, x6)) := C0
      have A := fun u => refAhead_any (x0, x1, x2, x3, x4, x5, x6) (p0, p1, p2, p3, p4, p5, p6) u
      clear C0 hx HC H X1
      cases hq : qLe (x0, x1, x2, x3, x4, x5, x6) (p0, p1, p2, p3, p4, p5, p6) with
      | true =>
        simp only [hq] at A
        have HQ : Hid (qLe (x0, x1, x2, x3, x4, x5, x6) (p0, p1, p2, p3, p4, p5, p6) = true) := hq
        have A' : Hid (∀ u, Calls Try.prog 31 #[P7.val (x0, x1, x2, x3, x4, x5, x6), P7.val (p0, p1, p2, p3, p4, p5, p6)] u fun e w' => e = .returned (.bool true) ∧ Below u.heap.size u w') := A
        clear A hq
        go_wp2_with fail
        refine region_owes (L := [Fact.is (.int .i64 k),
          Fact.is (.slice (some ⟨b, off, none⟩) n c),
          Fact.is (.int .i64 n),
          Fact.is (.bool true),
          Fact.is (.bool true),
          Fact.is (.slice (some ⟨b, off, none⟩) n c),
          Fact.is (.int .i64 k),
          Fact.is (.pointer (some ⟨b, off + k * 7, none⟩)),
          Fact.is (.agg #[.int .i64 x0, .int .i64 x1, .int .i64 x2, .int .i64 x3, .int .i64 x4, .int .i64 x5, .int .i64 x6]),
          Fact.is (.agg #[.int .i64 p0, .int .i64 p1, .int .i64 p2, .int .i64 p3, .int .i64 p4, .int .i64 p5, .int .i64 p6]),
          Fact.is (.bool true),
          Fact.is (.bool true)])
          (T := [6, 7, 8, 9, 10, 11, 12, 13, 14, 15, 16, 17]) (by kernel_rfl) (by kernel_rfl) rfl ?owes ?_
        case owes =>
          refine .cons (owes_move (.tmp 5) (.inl rfl) fun q u lh => ⟨wants_free rfl, lh.old 5 rfl⟩) ?_
          refine .cons (owes_move (.tmp 0) (.inl rfl) fun q u lh => ⟨wants_free rfl, lh.old 0 rfl⟩) ?_
          refine .cons (owes_value fun q u lh => ⟨wants_free rfl, .int .i64 n, by have e7 : q.tmps.getD 7 undef = .slice (some ⟨b, off, none⟩) n c := lh.dep 1 rfl; simp [execOp, Act.eval, e7, go_sem], rfl⟩) ?_
          refine .cons (owes_value fun q u lh => ⟨wants_free rfl, .bool true, by have e6 : q.tmps.getD 6 undef = .int .i64 k := lh.dep 0 rfl; have e8 : q.tmps.getD 8 undef = .int .i64 n := lh.dep 2 rfl; simp [execOp, Act.eval, e6, e8, hlt, go_sem], rfl⟩) ?_
          refine .cons (owes_move (.tmp 9) (.inl rfl) fun q u lh => ⟨wants_free rfl, lh.dep 3 rfl⟩) ?_
          refine .cons (owes_move (.tmp 0) (.inl rfl) fun q u lh => ⟨lh.wants1 4 true rfl rfl rfl, lh.old 0 rfl⟩) ?_
          refine .cons (owes_move (.tmp 5) (.inl rfl) fun q u lh => ⟨lh.wants1 4 true rfl rfl rfl, lh.old 5 rfl⟩) ?_
          refine .cons (owes_value fun q u lh => ⟨lh.wants1 4 true rfl rfl rfl, .pointer (some ⟨b, off + k * 7, none⟩), by have e11 : q.tmps.getD 11 undef = .slice (some ⟨b, off, none⟩) n c := lh.dep 5 rfl; have e12 : q.tmps.getD 12 undef = .int .i64 k := lh.dep 6 rfl; simp [execOp, Act.eval, e11, e12, i1, go_sem], rfl⟩) ?_
          refine .cons (owes_value fun q u lh => ⟨lh.wants1 4 true rfl rfl rfl, .agg #[.int .i64 x0, .int .i64 x1, .int .i64 x2, .int .i64 x3, .int .i64 x4, .int .i64 x5, .int .i64 x6], by have e13 : q.tmps.getD 13 undef = .pointer (some ⟨b, off + k * 7, none⟩) := lh.dep 7 rfl; obtain ⟨z0, z1, z2, z3, z4, z5, z6⟩ := C.out.below lh.below; simp [execOp, Act.eval, e13, z0, z1, z2, z3, z4, z5, z6, go_sem], rfl⟩) ?_
          refine .cons (owes_value fun q u lh => ⟨lh.wants1 4 true rfl rfl rfl, .agg #[.int .i64 p0, .int .i64 p1, .int .i64 p2, .int .i64 p3, .int .i64 p4, .int .i64 p5, .int .i64 p6], by have e3 : q.tmps.getD 3 undef = .pointer (some ⟨w.heap.size, 0, none⟩) := lh.old 3 rfl; obtain ⟨z0, z1, z2, z3, z4, z5, z6⟩ := X2.out.below lh.below; simp [execOp, Act.eval, e3, z0, z1, z2, z3, z4, z5, z6, go_sem], rfl⟩) ?_
          refine .cons (owes_call 31 Try.func31 (by kernel_rfl) (by kernel_rfl) [.tmp 14, .tmp 15] #[25, 25] rfl fun q u lh => ⟨lh.wants1 4 true rfl rfl rfl, by have e14 : q.tmps.getD 14 undef = .agg #[.int .i64 x0, .int .i64 x1, .int .i64 x2, .int .i64 x3, .int .i64 x4, .int .i64 x5, .int .i64 x6] := lh.dep 8 rfl; have e15 : q.tmps.getD 15 undef = .agg #[.int .i64 p0, .int .i64 p1, .int .i64 p2, .int .i64 p3, .int .i64 p4, .int .i64 p5, .int .i64 p6] := lh.dep 9 rfl; show Calls Try.prog 31 #[q.tmps.getD 14 undef, q.tmps.getD 15 undef] u _; rw [e14, e15]; exact bool_fact (A'.out u)⟩) ?_
          refine .cons (owes_pick (.tmp 10) (.tmp 16) (.const (.bool false)) rfl fun q u lh => ⟨wants_free rfl, true, lh.dep 4 rfl, lh.dep 10 rfl⟩) ?_
          exact .nil _
        intro q u hb hsz hdf hold hfact
        obtain rfl := frame_puts hsz hdf [6, 7, 8, 9, 10, 11, 12, 13, 14, 15, 16, 17] hold [(6, Value.int .i64 k), (7, Value.slice (some ⟨b, off, none⟩) n c), (8, Value.int .i64 n), (9, Value.bool true), (10, Value.bool true), (11, Value.slice (some ⟨b, off, none⟩) n c), (12, Value.int .i64 k), (13, Value.pointer (some ⟨b, off + k * 7, none⟩)), (14, Value.agg #[.int .i64 x0, .int .i64 x1, .int .i64 x2, .int .i64 x3, .int .i64 x4, .int .i64 x5, .int .i64 x6]), (15, Value.agg #[.int .i64 p0, .int .i64 p1, .int .i64 p2, .int .i64 p3, .int .i64 p4, .int .i64 p5, .int .i64 p6]), (16, Value.bool true), (17, Value.bool true)] ⟨hfact 0 (by decide), hfact 1 (by decide), hfact 2 (by decide), hfact 3 (by decide), hfact 4 (by decide), hfact 5 (by decide), hfact 6 (by decide), hfact 7 (by decide), hfact 8 (by decide), hfact 9 (by decide), hfact 10 (by decide), hfact 11 (by decide), trivial⟩ rfl
        clear hsz hdf hold hfact
        simp only [puts, Act.put, List.setIfInBounds_toArray, List.set_cons_zero, List.set_cons_succ]
        have B4 : Hid (Below w1.heap.size w1 u) := HB.out.trans (hb.mono HB.out.size)
        clear hb C X2
        go_wp2
        go_roundw
        case rel =>
          refine ⟨k + 1, by omega, by go_num, fun t ht => ?_, B4⟩
          by_cases htk : t < k
          · exact HL.out t htk
          · obtain rfl : t = k := by omega
            rw [HX.out]
            exact HQ.out
        case measure => simp [intOf]; omega
      | false =>
        simp only [hq] at A
        have HD : Hid ((k : Int) = (qBeh L (p0, p1, p2, p3, p4, p5, p6) : Nat)) := by
          show (k : Int) = _
          rw [beh_of (by have := HN.out; omega) HL.out (fun _ => by rw [HX.out]; exact hq)]
        have A' : Hid (∀ u, Calls Try.prog 31 #[P7.val (x0, x1, x2, x3, x4, x5, x6), P7.val (p0, p1, p2, p3, p4, p5, p6)] u fun e w' => e = .returned (.bool false) ∧ Below u.heap.size u w') := A
        clear A hq
        go_wp2_with fail
        refine region_owes (L := [Fact.is (.int .i64 k),
          Fact.is (.slice (some ⟨b, off, none⟩) n c),
          Fact.is (.int .i64 n),
          Fact.is (.bool true),
          Fact.is (.bool true),
          Fact.is (.slice (some ⟨b, off, none⟩) n c),
          Fact.is (.int .i64 k),
          Fact.is (.pointer (some ⟨b, off + k * 7, none⟩)),
          Fact.is (.agg #[.int .i64 x0, .int .i64 x1, .int .i64 x2, .int .i64 x3, .int .i64 x4, .int .i64 x5, .int .i64 x6]),
          Fact.is (.agg #[.int .i64 p0, .int .i64 p1, .int .i64 p2, .int .i64 p3, .int .i64 p4, .int .i64 p5, .int .i64 p6]),
          Fact.is (.bool false),
          Fact.is (.bool false)])
          (T := [6, 7, 8, 9, 10, 11, 12, 13, 14, 15, 16, 17]) (by kernel_rfl) (by kernel_rfl) rfl ?owes ?_
        case owes =>
          refine .cons (owes_move (.tmp 5) (.inl rfl) fun q u lh => ⟨wants_free rfl, lh.old 5 rfl⟩) ?_
          refine .cons (owes_move (.tmp 0) (.inl rfl) fun q u lh => ⟨wants_free rfl, lh.old 0 rfl⟩) ?_
          refine .cons (owes_value fun q u lh => ⟨wants_free rfl, .int .i64 n, by have e7 : q.tmps.getD 7 undef = .slice (some ⟨b, off, none⟩) n c := lh.dep 1 rfl; simp [execOp, Act.eval, e7, go_sem], rfl⟩) ?_
          refine .cons (owes_value fun q u lh => ⟨wants_free rfl, .bool true, by have e6 : q.tmps.getD 6 undef = .int .i64 k := lh.dep 0 rfl; have e8 : q.tmps.getD 8 undef = .int .i64 n := lh.dep 2 rfl; simp [execOp, Act.eval, e6, e8, hlt, go_sem], rfl⟩) ?_
          refine .cons (owes_move (.tmp 9) (.inl rfl) fun q u lh => ⟨wants_free rfl, lh.dep 3 rfl⟩) ?_
          refine .cons (owes_move (.tmp 0) (.inl rfl) fun q u lh => ⟨lh.wants1 4 true rfl rfl rfl, lh.old 0 rfl⟩) ?_
          refine .cons (owes_move (.tmp 5) (.inl rfl) fun q u lh => ⟨lh.wants1 4 true rfl rfl rfl, lh.old 5 rfl⟩) ?_
          refine .cons (owes_value fun q u lh => ⟨lh.wants1 4 true rfl rfl rfl, .pointer (some ⟨b, off + k * 7, none⟩), by have e11 : q.tmps.getD 11 undef = .slice (some ⟨b, off, none⟩) n c := lh.dep 5 rfl; have e12 : q.tmps.getD 12 undef = .int .i64 k := lh.dep 6 rfl; simp [execOp, Act.eval, e11, e12, i1, go_sem], rfl⟩) ?_
          refine .cons (owes_value fun q u lh => ⟨lh.wants1 4 true rfl rfl rfl, .agg #[.int .i64 x0, .int .i64 x1, .int .i64 x2, .int .i64 x3, .int .i64 x4, .int .i64 x5, .int .i64 x6], by have e13 : q.tmps.getD 13 undef = .pointer (some ⟨b, off + k * 7, none⟩) := lh.dep 7 rfl; obtain ⟨z0, z1, z2, z3, z4, z5, z6⟩ := C.out.below lh.below; simp [execOp, Act.eval, e13, z0, z1, z2, z3, z4, z5, z6, go_sem], rfl⟩) ?_
          refine .cons (owes_value fun q u lh => ⟨lh.wants1 4 true rfl rfl rfl, .agg #[.int .i64 p0, .int .i64 p1, .int .i64 p2, .int .i64 p3, .int .i64 p4, .int .i64 p5, .int .i64 p6], by have e3 : q.tmps.getD 3 undef = .pointer (some ⟨w.heap.size, 0, none⟩) := lh.old 3 rfl; obtain ⟨z0, z1, z2, z3, z4, z5, z6⟩ := X2.out.below lh.below; simp [execOp, Act.eval, e3, z0, z1, z2, z3, z4, z5, z6, go_sem], rfl⟩) ?_
          refine .cons (owes_call 31 Try.func31 (by kernel_rfl) (by kernel_rfl) [.tmp 14, .tmp 15] #[25, 25] rfl fun q u lh => ⟨lh.wants1 4 true rfl rfl rfl, by have e14 : q.tmps.getD 14 undef = .agg #[.int .i64 x0, .int .i64 x1, .int .i64 x2, .int .i64 x3, .int .i64 x4, .int .i64 x5, .int .i64 x6] := lh.dep 8 rfl; have e15 : q.tmps.getD 15 undef = .agg #[.int .i64 p0, .int .i64 p1, .int .i64 p2, .int .i64 p3, .int .i64 p4, .int .i64 p5, .int .i64 p6] := lh.dep 9 rfl; show Calls Try.prog 31 #[q.tmps.getD 14 undef, q.tmps.getD 15 undef] u _; rw [e14, e15]; exact bool_fact (A'.out u)⟩) ?_
          refine .cons (owes_pick (.tmp 10) (.tmp 16) (.const (.bool false)) rfl fun q u lh => ⟨wants_free rfl, true, lh.dep 4 rfl, lh.dep 10 rfl⟩) ?_
          exact .nil _
        intro q u hb hsz hdf hold hfact
        obtain rfl := frame_puts hsz hdf [6, 7, 8, 9, 10, 11, 12, 13, 14, 15, 16, 17] hold [(6, Value.int .i64 k), (7, Value.slice (some ⟨b, off, none⟩) n c), (8, Value.int .i64 n), (9, Value.bool true), (10, Value.bool true), (11, Value.slice (some ⟨b, off, none⟩) n c), (12, Value.int .i64 k), (13, Value.pointer (some ⟨b, off + k * 7, none⟩)), (14, Value.agg #[.int .i64 x0, .int .i64 x1, .int .i64 x2, .int .i64 x3, .int .i64 x4, .int .i64 x5, .int .i64 x6]), (15, Value.agg #[.int .i64 p0, .int .i64 p1, .int .i64 p2, .int .i64 p3, .int .i64 p4, .int .i64 p5, .int .i64 p6]), (16, Value.bool false), (17, Value.bool false)] ⟨hfact 0 (by decide), hfact 1 (by decide), hfact 2 (by decide), hfact 3 (by decide), hfact 4 (by decide), hfact 5 (by decide), hfact 6 (by decide), hfact 7 (by decide), hfact 8 (by decide), hfact 9 (by decide), hfact 10 (by decide), hfact 11 (by decide), trivial⟩ rfl
        clear hsz hdf hold hfact
        simp only [puts, Act.put, List.setIfInBounds_toArray, List.set_cons_zero, List.set_cons_succ]
        have B4 : Hid (Below w.heap.size w u) := HB1.out.trans ((HB.out.trans (hb.mono HB.out.size)).mono HB1.out.size)
        clear hb C X2
        go_wp2
        go_ret
        exact ⟨rt_int HD.out, B4.out⟩
    · obtain rfl : k = n := by omega
      have HD : Hid ((k : Int) = (qBeh L (p0, p1, p2, p3, p4, p5, p6) : Nat)) := by
        show (k : Int) = _
        rw [beh_of (by have := HN.out; omega) HL.out (fun h => by have := HN.out; omega)]
      have B4 : Hid (∀ q, Below w.heap.size w (wr.drewN q)) := fun q => HB1.out.trans ((HB.out.trans ((drawn_below wr q).mono HB.out.size)).mono HB1.out.size)
      clear H X1
      go_wp2
      go_quiet (fail)
      go_wp2
      go_ret
      exact ⟨rt_int HD.out, B4.out _⟩

set_option maxHeartbeats 4000000 in
theorem refPut_no (a : Option Addr) (n c : Nat) (L : List P7) (p : P7) (w : World) (h : PGood w a n c L) (hm : n ≤ 100000) (hh : qHas L p.id = true ∨ 40 ≤ L.length) :
    Calls Try.prog 9 #[.slice a n c, p.val] w (RPutEnd w (qPut L p) (qPutE L p)) := by
  have F := fun u (hb : Below w.heap.size w u) => refFind_any a n c p.id L u (by omega) (h.below hb).pays
  have hl := h.len
  have r1 := qFind_nn L p.id
  obtain ⟨r, hr⟩ : ∃ r, qFind L p.id = r := ⟨_, rfl⟩
  rw [hr] at r1
  simp only [hr] at F
  cases hq : qHas L p.id with
  | true =>
    rw [(put_has hq).1, (put_has hq).2]
    rw [hq] at r1
    have r2 : 0 ≤ r := of_decide_eq_true r1
    obtain ⟨p0, p1, p2, p3, p4, p5, p6⟩ := p
    have R : Hid (RPutEnd w L 6 (.returned (.tuple #[.slice a n c, .int .i64 6])) (w.alloc (.cells #[.int .i64 p0, .int .i64 p1, .int .i64 p2, .int .i64 p3, .int .i64 p4, .int .i64 p5, .int .i64 p6] 25))) := ⟨a, c, by rw [← hl], by rw [← hl]; exact h.below (box_below _ _), box_below _ _⟩
    have F1 := F _ (box_below w (.cells #[.int .i64 p0, .int .i64 p1, .int .i64 p2, .int .i64 p3, .int .i64 p4, .int .i64 p5, .int .i64 p6] 25))
    clear hq hh r1 hl h hr F
    go_enter Try.func9, Try.ntmps9
    go_wp2_with fail
    go_at_call 19
    refine F1.mono ?_
    rintro e w1 ⟨rfl, hw⟩
    obtain rfl := hw
    clear F1
    go_wp2
    go_ret2
    exact R.out
  | false =>
    have hf : 40 ≤ L.length := by
      rcases hh with hh | hh
      · rw [hq] at hh; cases hh
      · exact hh
    rw [(put_full hq hf).1, (put_full hq hf).2]
    rw [hq] at r1
    have r2 : ¬ 0 ≤ r := of_decide_eq_false r1
    have hn4 : (40 : Int) ≤ (n : Int) := by omega
    obtain ⟨p0, p1, p2, p3, p4, p5, p6⟩ := p
    have R : Hid (RPutEnd w L 3 (.returned (.tuple #[.slice a n c, .int .i64 3])) (w.alloc (.cells #[.int .i64 p0, .int .i64 p1, .int .i64 p2, .int .i64 p3, .int .i64 p4, .int .i64 p5, .int .i64 p6] 25))) := ⟨a, c, by rw [← hl], by rw [← hl]; exact h.below (box_below _ _), box_below _ _⟩
    have F1 := F _ (box_below w (.cells #[.int .i64 p0, .int .i64 p1, .int .i64 p2, .int .i64 p3, .int .i64 p4, .int .i64 p5, .int .i64 p6] 25))
    clear hq hh r1 hl h hr F hf
    go_enter Try.func9, Try.ntmps9
    go_wp2_with fail
    go_at_call 19
    refine F1.mono ?_
    rintro e w1 ⟨rfl, hw⟩
    obtain rfl := hw
    clear F1
    go_wp2
    go_ret2
    exact R.out

set_option maxHeartbeats 4000000 in
set_option maxRecDepth 100000 in
theorem refPut_ins (a : Option Addr) (n c : Nat) (L : List P7) (p : P7) (w : World) (h : PGood w a n c L) (hh : qHas L p.id = false) (hf : L.length < 40) :
    Calls Try.prog 9 #[.slice a n c, p.val] w (RPutEnd w (qPut L p) (qPutE L p)) := by
  have hl := h.len
  have F := fun u (hb : Below w.heap.size w u) => refFind_any a n c p.id L u (by omega) (h.below hb).pays
  have S := fun u (hb : Below w.heap.size w u) => refBehind_any a n c L p u (h.below hb) (by omega)
  have W := fun u (hb : Below w.heap.size w u) => refInsert_any a n c (qBeh L p) L p u (h.below hb) (by omega) (by have := qBeh_le L p; omega)
  unfold RPutEnd
  rw [(put_ins hh hf).1, (put_ins hh hf).2]
  have r1 := qFind_nn L p.id
  rw [hh] at r1
  obtain ⟨r, hr⟩ : ∃ r, qFind L p.id = r := ⟨_, rfl⟩
  rw [hr] at r1
  simp only [hr] at F
  have r2 : ¬ 0 ≤ r := of_decide_eq_false r1
  obtain ⟨k, hk⟩ : ∃ k, qBeh L p = k := ⟨_, rfl⟩
  rw [hk] at S W ⊢
  have hn4 : (n : Int) < (40 : Int) := by omega
  obtain ⟨p0, p1, p2, p3, p4, p5, p6⟩ := p
  obtain ⟨w1, hw1⟩ : ∃ w1, w1 = w.alloc (.cells #[.int .i64 p0, .int .i64 p1, .int .i64 p2, .int .i64 p3, .int .i64 p4, .int .i64 p5, .int .i64 p6] 25) := ⟨_, rfl⟩
  have HB : Hid (Below w.heap.size w w1) := by rw [hw1]; exact box_below _ _
  have HX : Hid (At7 w1 w.heap.size 0 (p0, p1, p2, p3, p4, p5, p6)) := by rw [hw1]; exact At7.new w (p0, p1, p2, p3, p4, p5, p6) _ _
  have F1 := F w1 HB.out
  rw [hw1] at F1
  have HW : Hid (w1 = _) := hw1
  clear hh r1 hl h hr F hf hk hw1
  go_enter Try.func9, Try.ntmps9
  go_wp2_with fail
  go_at_call 19
  refine F1.mono ?_
  rintro e w2 ⟨rfl, hw2⟩
  rw [← HW.out] at hw2
  obtain rfl := hw2.symm
  clear F1 HW
  go_wp2_with fail
  refine region_owes (L := [Fact.is (.slice a n c),
    Fact.is (.slice a n c),
    Fact.is (.agg #[.int .i64 p0, .int .i64 p1, .int .i64 p2, .int .i64 p3, .int .i64 p4, .int .i64 p5, .int .i64 p6]),
    Fact.is (.int .i64 k),
    Fact.is (.agg #[.int .i64 p0, .int .i64 p1, .int .i64 p2, .int .i64 p3, .int .i64 p4, .int .i64 p5, .int .i64 p6]),
    Fact.pnew w.heap.size (qIns L k (p0, p1, p2, p3, p4, p5, p6)),
    Fact.pnew w.heap.size (qIns L k (p0, p1, p2, p3, p4, p5, p6)),
    Fact.is (.int .i64 0)])
    (T := [16, 17, 18, 19, 20, 21, 4, 5]) (by kernel_rfl) (by kernel_rfl) rfl ?owes ?_
  case owes =>
    refine .cons (owes_move (.tmp 0) (.inl rfl) fun q u lh => ⟨wants_free rfl, lh.old 0 rfl⟩) ?_
    refine .cons (owes_move (.tmp 0) (.inl rfl) fun q u lh => ⟨wants_free rfl, lh.old 0 rfl⟩) ?_
    refine .cons (owes_value fun q u lh => ⟨wants_free rfl, .agg #[.int .i64 p0, .int .i64 p1, .int .i64 p2, .int .i64 p3, .int .i64 p4, .int .i64 p5, .int .i64 p6], by have e3 : q.tmps.getD 3 undef = .pointer (some ⟨w.heap.size, 0, none⟩) := lh.old 3 rfl; obtain ⟨z0, z1, z2, z3, z4, z5, z6⟩ := HX.out.below lh.below; simp [execOp, Act.eval, e3, z0, z1, z2, z3, z4, z5, z6, go_sem], rfl⟩) ?_
    refine .cons (owes_call 28 Try.func28 (by kernel_rfl) (by kernel_rfl) [.tmp 17, .tmp 18] #[23, 25] rfl fun q u lh => ⟨wants_free rfl, by have e17 : q.tmps.getD 17 undef = .slice a n c := lh.dep 1 rfl; have e18 : q.tmps.getD 18 undef = .agg #[.int .i64 p0, .int .i64 p1, .int .i64 p2, .int .i64 p3, .int .i64 p4, .int .i64 p5, .int .i64 p6] := lh.dep 2 rfl; show Calls Try.prog 28 #[q.tmps.getD 17 undef, q.tmps.getD 18 undef] u _; rw [e17, e18]; exact int_fact (S u (HB.out.trans (lh.below.mono HB.out.size)))⟩) ?_
    refine .cons (owes_value fun q u lh => ⟨wants_free rfl, .agg #[.int .i64 p0, .int .i64 p1, .int .i64 p2, .int .i64 p3, .int .i64 p4, .int .i64 p5, .int .i64 p6], by have e3 : q.tmps.getD 3 undef = .pointer (some ⟨w.heap.size, 0, none⟩) := lh.old 3 rfl; obtain ⟨z0, z1, z2, z3, z4, z5, z6⟩ := HX.out.below lh.below; simp [execOp, Act.eval, e3, z0, z1, z2, z3, z4, z5, z6, go_sem], rfl⟩) ?_
    refine .cons (owes_call 27 Try.func27 (by kernel_rfl) (by kernel_rfl) [.tmp 16, .tmp 19, .tmp 20] #[23, 3, 25] rfl fun q u lh => ⟨wants_free rfl, by have e16 : q.tmps.getD 16 undef = .slice a n c := lh.dep 0 rfl; have e19 : q.tmps.getD 19 undef = .int .i64 k := lh.dep 3 rfl; have e20 : q.tmps.getD 20 undef = .agg #[.int .i64 p0, .int .i64 p1, .int .i64 p2, .int .i64 p3, .int .i64 p4, .int .i64 p5, .int .i64 p6] := lh.dep 4 rfl; show Calls Try.prog 27 #[q.tmps.getD 16 undef, q.tmps.getD 19 undef, q.tmps.getD 20 undef] u _; rw [e16, e19, e20]; exact pend_fact (Nat.le_trans HB.out.size lh.below.size) (W u (HB.out.trans (lh.below.mono HB.out.size)))⟩) ?_
    refine .cons (owes_move (.tmp 21) (.inr rfl) fun q u lh => ⟨wants_free rfl, lh.dep 5 rfl⟩) ?_
    refine .cons (owes_value fun q u lh => ⟨wants_free rfl, .int .i64 0, by simp [execOp, Act.eval, go_sem], rfl⟩) ?_
    exact .nil _
  intro q u hb hsz hdf hold hfact
  obtain ⟨v21, e21⟩ : ∃ v, q.tmps.getD 21 undef = v := ⟨_, rfl⟩
  have f21 : (Fact.pnew w.heap.size (qIns L k (p0, p1, p2, p3, p4, p5, p6))).1 u v21 := by rw [← e21]; exact hfact 5 (by decide)
  obtain ⟨a4, m4, e4, g4, n4⟩ : (Fact.pnew w.heap.size (qIns L k (p0, p1, p2, p3, p4, p5, p6))).1 u (q.tmps.getD 4 undef) := hfact 6 (by decide)
  obtain rfl := frame_puts hsz hdf [16, 17, 18, 19, 20, 21, 4, 5] hold [(16, Value.slice a n c), (17, Value.slice a n c), (18, Value.agg #[.int .i64 p0, .int .i64 p1, .int .i64 p2, .int .i64 p3, .int .i64 p4, .int .i64 p5, .int .i64 p6]), (19, Value.int .i64 k), (20, Value.agg #[.int .i64 p0, .int .i64 p1, .int .i64 p2, .int .i64 p3, .int .i64 p4, .int .i64 p5, .int .i64 p6]), (21, v21), (4, Value.slice a4 (qIns L k (p0, p1, p2, p3, p4, p5, p6)).length m4), (5, Value.int .i64 0)] ⟨hfact 0 (by decide), hfact 1 (by decide), hfact 2 (by decide), hfact 3 (by decide), hfact 4 (by decide), e21, e4, hfact 7 (by decide), trivial⟩ rfl
  clear hsz hdf hold hfact
  simp only [puts, Act.put, List.setIfInBounds_toArray, List.set_cons_zero, List.set_cons_succ]
  have B3 : Hid (Below w.heap.size w u) := HB.out.trans (hb.mono HB.out.size)
  clear hb S W HX HB
  go_wp2
  go_ret2
  exact ⟨a4, m4, rfl, g4, B3.out⟩

theorem refPut_any (a : Option Addr) (n c : Nat) (L : List P7) (p : P7) (w : World) (h : PGood w a n c L) (hm : n ≤ 100000) :
    Calls Try.prog 9 #[.slice a n c, p.val] w (RPutEnd w (qPut L p) (qPutE L p)) := by
  cases hh : qHas L p.id with
  | true => exact refPut_no a n c L p w h hm (.inl hh)
  | false =>
    by_cases hf : 40 ≤ L.length
    · exact refPut_no a n c L p w h hm (.inr hf)
    · exact refPut_ins a n c L p w h hh (by omega)

set_option maxHeartbeats 4000000 in
theorem refFront_no (a : Option Addr) (n c : Nat) (L : List P7) (x : Int) (w : World) (h : PGood w a n c L) (hm : n ≤ 100000) (hh : qHas L x = false) :
    Calls Try.prog 13 #[.slice a n c, .int .i64 x] w (RPutEnd w (qFront L x) (qDropE L x)) := by
  have D := refDrop_any a n c L x w h hm
  rw [(drop_no hh).1, (drop_no hh).2.1, (drop_no hh).2.2, show p70 = (0, 0, 0, 0, 0, 0, 0) from rfl] at D
  rw [front_no hh, (drop_no hh).2.2]
  have hl := h.len
  have R : Hid (∀ u, Below w.heap.size w u → RPutEnd w L 4 (.returned (.tuple #[.slice a n c, .int .i64 4])) (u.alloc (.cells #[.int .i64 0, .int .i64 0, .int .i64 0, .int .i64 0, .int .i64 0, .int .i64 0, .int .i64 0] 25))) := fun u hb => ⟨a, c, by rw [← hl], by rw [← hl]; exact (h.below hb).below (box_below _ _), hb.alloc hb.size _⟩
  obtain ⟨nl, hnl⟩ : ∃ nl, L.length = nl := ⟨_, rfl⟩
  unfold RDropEnd at D
  simp only [hnl] at D
  clear hh h hm hnl hl
  go_enter Try.func13, Try.ntmps13
  go_wp2_with fail
  go_at_call 11
  refine D.mono ?_
  rintro e w1 ⟨a1, c1, rfl, g1, hb⟩
  have R1 : Hid (RPutEnd w L 4 (.returned (.tuple #[.slice a n c, .int .i64 4])) (w1.alloc (.cells #[.int .i64 0, .int .i64 0, .int .i64 0, .int .i64 0, .int .i64 0, .int .i64 0, .int .i64 0] 25))) := R.out w1 hb
  clear g1 hb D R
  go_wp2
  go_ret2
  exact R1.out

set_option maxHeartbeats 4000000 in
set_option maxRecDepth 100000 in
theorem refFront_yes (a : Option Addr) (n c : Nat) (L : List P7) (x : Int) (w : World) (h : PGood w a n c L) (hm : n ≤ 100000) (hh : qHas L x = true) :
    Calls Try.prog 13 #[.slice a n c, .int .i64 x] w (RPutEnd w (qFront L x) (qDropE L x)) := by
  have hl := h.len
  have D := refDrop_any a n c L x w h hm
  rw [(drop_yes hh).2.2] at D
  rw [front_yes hh, (drop_yes hh).2.2]
  have hdl := drop_le L x
  obtain ⟨M, hM⟩ : ∃ M, qDrop L x = M := ⟨_, rfl⟩
  obtain ⟨p, hp⟩ : ∃ p, qDropP L x = p := ⟨_, rfl⟩
  rw [hM] at D hdl ⊢
  rw [hp] at D ⊢
  obtain ⟨p0, p1, p2, p3, p4, p5, p6⟩ := p
  obtain ⟨ml, hml⟩ : ∃ ml, M.length = ml := ⟨_, rfl⟩
  unfold RDropEnd at D
  simp only [hml] at D
  have K2 := fun u a1 c1 k (g : PGood u a1 ml c1 M) (hk : k ≤ ml) => refInsert_any a1 ml c1 k M (p0, p1, p2, p3, p4, p5, p6) u g (by omega) hk
  have hm2 : ml ≤ 100000 := by omega
  have HML : Hid (M.length = ml) := hml
  clear hh h hl hM hp hdl hm hml
  go_enter Try.func13, Try.ntmps13
  go_wp2_with fail
  go_at_call 11
  refine D.mono ?_
  rintro e w1 ⟨a1, c1, rfl, g1, hb⟩
  obtain ⟨w2, hw2⟩ : ∃ w2, w2 = w1.alloc (.cells #[.int .i64 p0, .int .i64 p1, .int .i64 p2, .int .i64 p3, .int .i64 p4, .int .i64 p5, .int .i64 p6] 25) := ⟨_, rfl⟩
  have B2 : Hid (Below w.heap.size w w2) := by rw [hw2]; exact hb.alloc hb.size _
  have X2 : Hid (At7 w2 w1.heap.size 0 (p0, p1, p2, p3, p4, p5, p6)) := by rw [hw2]; exact At7.new w1 (p0, p1, p2, p3, p4, p5, p6) _ _
  have G2 : Hid (PGood w2 a1 ml c1 M) := by rw [hw2]; exact g1.below (box_below _ _)
  have HW : Hid (w2 = _) := hw2
  clear g1 hb D hw2
  go_wp2
  rw [← HW.out]
  clear HW
  go_loopw [9] (fun i wr => ∃ k : Nat, k ≤ ml ∧ i = .int .i64 k ∧ Hid (∀ t, t < k → qLe (p0, p1, p2, p3, p4, p5, p6) (M.getD t p70) = false) ∧ Hid (Below w2.heap.size w2 wr)) (fun i _ => ml - (intOf i).toNat)
  case atStart => exact ⟨0, by omega, rfl, fun t ht => absurd ht (Nat.not_lt_zero _), Below.refl _ _⟩
  case round =>
    obtain ⟨k, hk, rfl, HL, HB⟩ := hrel
    have X3 : Hid (At7 wr w1.heap.size 0 (p0, p1, p2, p3, p4, p5, p6)) := X2.out.below HB.out
    have G3 : Hid (PGood wr a1 ml c1 M) := G2.out.below HB.out
    have BW : Hid (Below w.heap.size w wr) := B2.out.trans (HB.out.mono B2.out.size)
    by_cases hlt : k < ml
    · have i1 : (k : Int) < (ml : Int) := by omega
      obtain ⟨b, off, rfl, HC⟩ := G3.out.at hlt
      have C0 := HC k hlt
      obtain ⟨x, hx⟩ : ∃ x, M.getD k p70 = x := ⟨_, rfl⟩
      rw [hx] at C0
      have HX : Hid (M.getD k p70 = x) := hx
      obtain ⟨x0, x1, x2, x3, x4, x5, x6⟩ := x
      have C : Hid (At7 wr b (off + k * 7) (x0, x1, x2, x3, x4, x5, x6)) := C0
      have A := fun u => refAhead_any (p0, p1, p2, p3, p4, p5, p6) (x0, x1, x2, x3, x4, x5, x6) u
      clear C0 hx HC
      cases hq : qLe (p0, p1, p2, p3, p4, p5, p6) (x0, x1, x2, x3, x4, x5, x6) with
      | true =>
        simp only [hq] at A
        have HK : Hid (qAhd M (p0, p1, p2, p3, p4, p5, p6) = k) := ahd_of (by have := HML.out; omega) HL.out (fun _ => by rw [HX.out]; exact hq)
        have A' : Hid (∀ u, Calls Try.prog 31 #[P7.val (p0, p1, p2, p3, p4, p5, p6), P7.val (x0, x1, x2, x3, x4, x5, x6)] u fun e w' => e = .returned (.bool true) ∧ Below u.heap.size u w') := A
        clear A hq
        go_wp2_with fail
        refine region_owes (L := [Fact.is (.int .i64 k),
          Fact.is (.slice (some ⟨b, off, none⟩) ml c1),
          Fact.is (.int .i64 ml),
          Fact.is (.bool true),
          Fact.is (.bool true),
          Fact.is (.agg #[.int .i64 p0, .int .i64 p1, .int .i64 p2, .int .i64 p3, .int .i64 p4, .int .i64 p5, .int .i64 p6]),
          Fact.is (.slice (some ⟨b, off, none⟩) ml c1),
          Fact.is (.int .i64 k),
          Fact.is (.pointer (some ⟨b, off + k * 7, none⟩)),
          Fact.is (.agg #[.int .i64 x0, .int .i64 x1, .int .i64 x2, .int .i64 x3, .int .i64 x4, .int .i64 x5, .int .i64 x6]),
          Fact.is (.bool true),
          Fact.is (.bool false),
          Fact.is (.bool false)])
          (T := [21, 22, 23, 24, 25, 26, 27, 28, 29, 30, 31, 32, 33]) (by kernel_rfl) (by kernel_rfl) rfl ?owes ?_
        case owes =>
          refine .cons (owes_move (.tmp 9) (.inl rfl) fun q u lh => ⟨wants_free rfl, lh.old 9 rfl⟩) ?_
          refine .cons (owes_move (.tmp 6) (.inl rfl) fun q u lh => ⟨wants_free rfl, lh.old 6 rfl⟩) ?_
          refine .cons (owes_value fun q u lh => ⟨wants_free rfl, .int .i64 ml, by have e22 : q.tmps.getD 22 undef = .slice (some ⟨b, off, none⟩) ml c1 := lh.dep 1 rfl; simp [execOp, Act.eval, e22, go_sem], rfl⟩) ?_
          refine .cons (owes_value fun q u lh => ⟨wants_free rfl, .bool true, by have e21 : q.tmps.getD 21 undef = .int .i64 k := lh.dep 0 rfl; have e23 : q.tmps.getD 23 undef = .int .i64 ml := lh.dep 2 rfl; simp [execOp, Act.eval, e21, e23, hlt, go_sem], rfl⟩) ?_
          refine .cons (owes_move (.tmp 24) (.inl rfl) fun q u lh => ⟨wants_free rfl, lh.dep 3 rfl⟩) ?_
          refine .cons (owes_value fun q u lh => ⟨lh.wants1 4 true rfl rfl rfl, .agg #[.int .i64 p0, .int .i64 p1, .int .i64 p2, .int .i64 p3, .int .i64 p4, .int .i64 p5, .int .i64 p6], by have e7 : q.tmps.getD 7 undef = .pointer (some ⟨w1.heap.size, 0, none⟩) := lh.old 7 rfl; obtain ⟨z0, z1, z2, z3, z4, z5, z6⟩ := X3.out.below lh.below; simp [execOp, Act.eval, e7, z0, z1, z2, z3, z4, z5, z6, go_sem], rfl⟩) ?_
          refine .cons (owes_move (.tmp 6) (.inl rfl) fun q u lh => ⟨lh.wants1 4 true rfl rfl rfl, lh.old 6 rfl⟩) ?_
          refine .cons (owes_move (.tmp 9) (.inl rfl) fun q u lh => ⟨lh.wants1 4 true rfl rfl rfl, lh.old 9 rfl⟩) ?_
          refine .cons (owes_value fun q u lh => ⟨lh.wants1 4 true rfl rfl rfl, .pointer (some ⟨b, off + k * 7, none⟩), by have e27 : q.tmps.getD 27 undef = .slice (some ⟨b, off, none⟩) ml c1 := lh.dep 6 rfl; have e28 : q.tmps.getD 28 undef = .int .i64 k := lh.dep 7 rfl; simp [execOp, Act.eval, e27, e28, i1, go_sem], rfl⟩) ?_
          refine .cons (owes_value fun q u lh => ⟨lh.wants1 4 true rfl rfl rfl, .agg #[.int .i64 x0, .int .i64 x1, .int .i64 x2, .int .i64 x3, .int .i64 x4, .int .i64 x5, .int .i64 x6], by have e29 : q.tmps.getD 29 undef = .pointer (some ⟨b, off + k * 7, none⟩) := lh.dep 8 rfl; obtain ⟨z0, z1, z2, z3, z4, z5, z6⟩ := C.out.below lh.below; simp [execOp, Act.eval, e29, z0, z1, z2, z3, z4, z5, z6, go_sem], rfl⟩) ?_
          refine .cons (owes_call 31 Try.func31 (by kernel_rfl) (by kernel_rfl) [.tmp 26, .tmp 30] #[25, 25] rfl fun q u lh => ⟨lh.wants1 4 true rfl rfl rfl, by have e26 : q.tmps.getD 26 undef = .agg #[.int .i64 p0, .int .i64 p1, .int .i64 p2, .int .i64 p3, .int .i64 p4, .int .i64 p5, .int .i64 p6] := lh.dep 5 rfl; have e30 : q.tmps.getD 30 undef = .agg #[.int .i64 x0, .int .i64 x1, .int .i64 x2, .int .i64 x3, .int .i64 x4, .int .i64 x5, .int .i64 x6] := lh.dep 9 rfl; show Calls Try.prog 31 #[q.tmps.getD 26 undef, q.tmps.getD 30 undef] u _; rw [e26, e30]; exact bool_fact (A'.out u)⟩) ?_
          refine .cons (owes_value fun q u lh => ⟨lh.wants1 4 true rfl rfl rfl, .bool false, by have e31 : q.tmps.getD 31 undef = .bool true := lh.dep 10 rfl; simp [execOp, Act.eval, e31, go_sem], rfl⟩) ?_
          refine .cons (owes_pick (.tmp 25) (.tmp 32) (.const (.bool false)) rfl fun q u lh => ⟨wants_free rfl, true, lh.dep 4 rfl, lh.dep 11 rfl⟩) ?_
          exact .nil _
        intro q u hb hsz hdf hold hfact
        obtain rfl := frame_puts hsz hdf [21, 22, 23, 24, 25, 26, 27, 28, 29, 30, 31, 32, 33] hold [(21, Value.int .i64 k), (22, Value.slice (some ⟨b, off, none⟩) ml c1), (23, Value.int .i64 ml), (24, Value.bool true), (25, Value.bool true), (26, Value.agg #[.int .i64 p0, .int .i64 p1, .int .i64 p2, .int .i64 p3, .int .i64 p4, .int .i64 p5, .int .i64 p6]), (27, Value.slice (some ⟨b, off, none⟩) ml c1), (28, Value.int .i64 k), (29, Value.pointer (some ⟨b, off + k * 7, none⟩)), (30, Value.agg #[.int .i64 x0, .int .i64 x1, .int .i64 x2, .int .i64 x3, .int .i64 x4, .int .i64 x5, .int .i64 x6]), (31, Value.bool true), (32, Value.bool false), (33, Value.bool false)] ⟨hfact 0 (by decide), hfact 1 (by decide), hfact 2 (by decide), hfact 3 (by decide), hfact 4 (by decide), hfact 5 (by decide), hfact 6 (by decide), hfact 7 (by decide), hfact 8 (by decide), hfact 9 (by decide), hfact 10 (by decide), hfact 11 (by decide), hfact 12 (by decide), trivial⟩ rfl
        clear hsz hdf hold hfact
        simp only [puts, Act.put, List.setIfInBounds_toArray, List.set_cons_zero, List.set_cons_succ]
        have B4 : Hid (Below w.heap.size w u) := BW.out.trans (hb.mono BW.out.size)
        have K3 := K2 u _ c1 k (G3.out.below hb) hk
        obtain ⟨z0, z1, z2, z3, z4, z5, z6⟩ := X3.out.below hb
        simp only [P7.id, P7.fr, P7.to, P7.am, P7.cl, P7.st, P7.ti] at z0 z1 z2 z3 z4 z5 z6
        clear hb C X3 K2
        go_wp2_with fail
        go_at_call 27
        refine K3.mono ?_
        rintro e w4 ⟨a4, m4, rfl, g4, n4, hb⟩
        have R : Hid (RPutEnd w (qIns M (qAhd M (p0, p1, p2, p3, p4, p5, p6)) (p0, p1, p2, p3, p4, p5, p6)) 0 (.returned (.tuple #[.slice a4 (qIns M k (p0, p1, p2, p3, p4, p5, p6)).length m4, .int .i64 0])) w4) := by rw [HK.out]; exact ⟨a4, m4, rfl, g4, B4.out.trans (hb.mono B4.out.size)⟩
        clear g4 n4 hb K3 z0 z1 z2 z3 z4 z5 z6
        go_wp2
        go_ret2
        exact R.out
      | false =>
        simp only [hq] at A
        have HQ : Hid (qLe (p0, p1, p2, p3, p4, p5, p6) (x0, x1, x2, x3, x4, x5, x6) = false) := hq
        have A' : Hid (∀ u, Calls Try.prog 31 #[P7.val (p0, p1, p2, p3, p4, p5, p6), P7.val (x0, x1, x2, x3, x4, x5, x6)] u fun e w' => e = .returned (.bool false) ∧ Below u.heap.size u w') := A
        clear A hq
        go_wp2_with fail
        refine region_owes (L := [Fact.is (.int .i64 k),
          Fact.is (.slice (some ⟨b, off, none⟩) ml c1),
          Fact.is (.int .i64 ml),
          Fact.is (.bool true),
          Fact.is (.bool true),
          Fact.is (.agg #[.int .i64 p0, .int .i64 p1, .int .i64 p2, .int .i64 p3, .int .i64 p4, .int .i64 p5, .int .i64 p6]),
          Fact.is (.slice (some ⟨b, off, none⟩) ml c1),
          Fact.is (.int .i64 k),
          Fact.is (.pointer (some ⟨b, off + k * 7, none⟩)),
          Fact.is (.agg #[.int .i64 x0, .int .i64 x1, .int .i64 x2, .int .i64 x3, .int .i64 x4, .int .i64 x5, .int .i64 x6]),
          Fact.is (.bool false),
          Fact.is (.bool true),
          Fact.is (.bool true)])
          (T := [21, 22, 23, 24, 25, 26, 27, 28, 29, 30, 31, 32, 33]) (by kernel_rfl) (by kernel_rfl) rfl ?owes ?_
        case owes =>
          refine .cons (owes_move (.tmp 9) (.inl rfl) fun q u lh => ⟨wants_free rfl, lh.old 9 rfl⟩) ?_
          refine .cons (owes_move (.tmp 6) (.inl rfl) fun q u lh => ⟨wants_free rfl, lh.old 6 rfl⟩) ?_
          refine .cons (owes_value fun q u lh => ⟨wants_free rfl, .int .i64 ml, by have e22 : q.tmps.getD 22 undef = .slice (some ⟨b, off, none⟩) ml c1 := lh.dep 1 rfl; simp [execOp, Act.eval, e22, go_sem], rfl⟩) ?_
          refine .cons (owes_value fun q u lh => ⟨wants_free rfl, .bool true, by have e21 : q.tmps.getD 21 undef = .int .i64 k := lh.dep 0 rfl; have e23 : q.tmps.getD 23 undef = .int .i64 ml := lh.dep 2 rfl; simp [execOp, Act.eval, e21, e23, hlt, go_sem], rfl⟩) ?_
          refine .cons (owes_move (.tmp 24) (.inl rfl) fun q u lh => ⟨wants_free rfl, lh.dep 3 rfl⟩) ?_
          refine .cons (owes_value fun q u lh => ⟨lh.wants1 4 true rfl rfl rfl, .agg #[.int .i64 p0, .int .i64 p1, .int .i64 p2, .int .i64 p3, .int .i64 p4, .int .i64 p5, .int .i64 p6], by have e7 : q.tmps.getD 7 undef = .pointer (some ⟨w1.heap.size, 0, none⟩) := lh.old 7 rfl; obtain ⟨z0, z1, z2, z3, z4, z5, z6⟩ := X3.out.below lh.below; simp [execOp, Act.eval, e7, z0, z1, z2, z3, z4, z5, z6, go_sem], rfl⟩) ?_
          refine .cons (owes_move (.tmp 6) (.inl rfl) fun q u lh => ⟨lh.wants1 4 true rfl rfl rfl, lh.old 6 rfl⟩) ?_
          refine .cons (owes_move (.tmp 9) (.inl rfl) fun q u lh => ⟨lh.wants1 4 true rfl rfl rfl, lh.old 9 rfl⟩) ?_
          refine .cons (owes_value fun q u lh => ⟨lh.wants1 4 true rfl rfl rfl, .pointer (some ⟨b, off + k * 7, none⟩), by have e27 : q.tmps.getD 27 undef = .slice (some ⟨b, off, none⟩) ml c1 := lh.dep 6 rfl; have e28 : q.tmps.getD 28 undef = .int .i64 k := lh.dep 7 rfl; simp [execOp, Act.eval, e27, e28, i1, go_sem], rfl⟩) ?_
          refine .cons (owes_value fun q u lh => ⟨lh.wants1 4 true rfl rfl rfl, .agg #[.int .i64 x0, .int .i64 x1, .int .i64 x2, .int .i64 x3, .int .i64 x4, .int .i64 x5, .int .i64 x6], by have e29 : q.tmps.getD 29 undef = .pointer (some ⟨b, off + k * 7, none⟩) := lh.dep 8 rfl; obtain ⟨z0, z1, z2, z3, z4, z5, z6⟩ := C.out.below lh.below; simp [execOp, Act.eval, e29, z0, z1, z2, z3, z4, z5, z6, go_sem], rfl⟩) ?_
          refine .cons (owes_call 31 Try.func31 (by kernel_rfl) (by kernel_rfl) [.tmp 26, .tmp 30] #[25, 25] rfl fun q u lh => ⟨lh.wants1 4 true rfl rfl rfl, by have e26 : q.tmps.getD 26 undef = .agg #[.int .i64 p0, .int .i64 p1, .int .i64 p2, .int .i64 p3, .int .i64 p4, .int .i64 p5, .int .i64 p6] := lh.dep 5 rfl; have e30 : q.tmps.getD 30 undef = .agg #[.int .i64 x0, .int .i64 x1, .int .i64 x2, .int .i64 x3, .int .i64 x4, .int .i64 x5, .int .i64 x6] := lh.dep 9 rfl; show Calls Try.prog 31 #[q.tmps.getD 26 undef, q.tmps.getD 30 undef] u _; rw [e26, e30]; exact bool_fact (A'.out u)⟩) ?_
          refine .cons (owes_value fun q u lh => ⟨lh.wants1 4 true rfl rfl rfl, .bool true, by have e31 : q.tmps.getD 31 undef = .bool false := lh.dep 10 rfl; simp [execOp, Act.eval, e31, go_sem], rfl⟩) ?_
          refine .cons (owes_pick (.tmp 25) (.tmp 32) (.const (.bool false)) rfl fun q u lh => ⟨wants_free rfl, true, lh.dep 4 rfl, lh.dep 11 rfl⟩) ?_
          exact .nil _
        intro q u hb hsz hdf hold hfact
        obtain rfl := frame_puts hsz hdf [21, 22, 23, 24, 25, 26, 27, 28, 29, 30, 31, 32, 33] hold [(21, Value.int .i64 k), (22, Value.slice (some ⟨b, off, none⟩) ml c1), (23, Value.int .i64 ml), (24, Value.bool true), (25, Value.bool true), (26, Value.agg #[.int .i64 p0, .int .i64 p1, .int .i64 p2, .int .i64 p3, .int .i64 p4, .int .i64 p5, .int .i64 p6]), (27, Value.slice (some ⟨b, off, none⟩) ml c1), (28, Value.int .i64 k), (29, Value.pointer (some ⟨b, off + k * 7, none⟩)), (30, Value.agg #[.int .i64 x0, .int .i64 x1, .int .i64 x2, .int .i64 x3, .int .i64 x4, .int .i64 x5, .int .i64 x6]), (31, Value.bool false), (32, Value.bool true), (33, Value.bool true)] ⟨hfact 0 (by decide), hfact 1 (by decide), hfact 2 (by decide), hfact 3 (by decide), hfact 4 (by decide), hfact 5 (by decide), hfact 6 (by decide), hfact 7 (by decide), hfact 8 (by decide), hfact 9 (by decide), hfact 10 (by decide), hfact 11 (by decide), hfact 12 (by decide), trivial⟩ rfl
        clear hsz hdf hold hfact
        simp only [puts, Act.put, List.setIfInBounds_toArray, List.set_cons_zero, List.set_cons_succ]
        have B4 : Hid (Below w2.heap.size w2 u) := HB.out.trans (hb.mono HB.out.size)
        clear hb C X3 K2
        go_wp2
        go_roundw
        case rel =>
          refine ⟨k + 1, by omega, by go_num, fun t ht => ?_, B4⟩
          by_cases htk : t < k
          · exact HL.out t htk
          · obtain rfl : t = k := by omega
            rw [HX.out]
            exact HQ.out
        case measure => simp [intOf]; omega
    · obtain rfl : k = ml := by omega
      have HK : Hid (qAhd M (p0, p1, p2, p3, p4, p5, p6) = k) := ahd_of (by have := HML.out; omega) HL.out (fun h => by have := HML.out; omega)
      have K3 := fun q => K2 (wr.drewN q) a1 c1 k (G3.out.below (drawn_below wr q)) (Nat.le_refl _)
      have B4 : Hid (∀ q, Below w.heap.size w (wr.drewN q)) := fun q => BW.out.trans ((drawn_below wr q).mono BW.out.size)
      obtain ⟨z0, z1, z2, z3, z4, z5, z6⟩ := X3.out
      simp only [P7.id, P7.fr, P7.to, P7.am, P7.cl, P7.st, P7.ti] at z0 z1 z2 z3 z4 z5 z6
      clear X3 K2 G3 BW
      go_wp2
      go_quiet (fail)
      go_wp2_with fail
      go_at_call 27
      refine (K3 _).mono ?_
      rintro e w4 ⟨a4, m4, rfl, g4, n4, hb⟩
      have R : Hid (RPutEnd w (qIns M (qAhd M (p0, p1, p2, p3, p4, p5, p6)) (p0, p1, p2, p3, p4, p5, p6)) 0 (.returned (.tuple #[.slice a4 (qIns M k (p0, p1, p2, p3, p4, p5, p6)).length m4, .int .i64 0])) w4) := by rw [HK.out]; exact ⟨a4, m4, rfl, g4, (B4.out _).trans (hb.mono (B4.out _).size)⟩
      clear g4 n4 hb K3 z0 z1 z2 z3 z4 z5 z6
      go_wp2
      go_ret2
      exact R.out

theorem refFront_any (a : Option Addr) (n c : Nat) (L : List P7) (x : Int) (w : World) (h : PGood w a n c L) (hm : n ≤ 100000) :
    Calls Try.prog 13 #[.slice a n c, .int .i64 x] w (RPutEnd w (qFront L x) (qDropE L x)) := by
  cases hh : qHas L x with
  | true => exact refFront_yes a n c L x w h hm hh
  | false => exact refFront_no a n c L x w h hm hh

set_option maxHeartbeats 4000000 in
theorem refBack_no (a : Option Addr) (n c : Nat) (L : List P7) (x : Int) (w : World) (h : PGood w a n c L) (hm : n ≤ 100000) (hh : qHas L x = false) :
    Calls Try.prog 15 #[.slice a n c, .int .i64 x] w (RPutEnd w (qBack L x) (qDropE L x)) := by
  have D := refDrop_any a n c L x w h hm
  rw [(drop_no hh).1, (drop_no hh).2.1, (drop_no hh).2.2, show p70 = (0, 0, 0, 0, 0, 0, 0) from rfl] at D
  rw [back_no hh, (drop_no hh).2.2]
  have hl := h.len
  have R : Hid (∀ u, Below w.heap.size w u → RPutEnd w L 4 (.returned (.tuple #[.slice a n c, .int .i64 4])) (u.alloc (.cells #[.int .i64 0, .int .i64 0, .int .i64 0, .int .i64 0, .int .i64 0, .int .i64 0, .int .i64 0] 25))) := fun u hb => ⟨a, c, by rw [← hl], by rw [← hl]; exact (h.below hb).below (box_below _ _), hb.alloc hb.size _⟩
  obtain ⟨nl, hnl⟩ : ∃ nl, L.length = nl := ⟨_, rfl⟩
  unfold RDropEnd at D
  simp only [hnl] at D
  clear hh h hm hnl hl
  go_enter Try.func15, Try.ntmps15
  go_wp2_with fail
  go_at_call 11
  refine D.mono ?_
  rintro e w1 ⟨a1, c1, rfl, g1, hb⟩
  have R1 : Hid (RPutEnd w L 4 (.returned (.tuple #[.slice a n c, .int .i64 4])) (w1.alloc (.cells #[.int .i64 0, .int .i64 0, .int .i64 0, .int .i64 0, .int .i64 0, .int .i64 0, .int .i64 0] 25))) := R.out w1 hb
  clear g1 hb D R
  go_wp2
  go_ret2
  exact R1.out

set_option maxHeartbeats 4000000 in
set_option maxRecDepth 100000 in
theorem refBack_yes (a : Option Addr) (n c : Nat) (L : List P7) (x : Int) (w : World) (h : PGood w a n c L) (hm : n ≤ 100000) (hh : qHas L x = true) :
    Calls Try.prog 15 #[.slice a n c, .int .i64 x] w (RPutEnd w (qBack L x) (qDropE L x)) := by
  have hl := h.len
  have D := refDrop_any a n c L x w h hm
  rw [(drop_yes hh).2.2] at D
  rw [back_yes hh, (drop_yes hh).2.2]
  have hdl := drop_le L x
  obtain ⟨M, hM⟩ : ∃ M, qDrop L x = M := ⟨_, rfl⟩
  obtain ⟨p, hp⟩ : ∃ p, qDropP L x = p := ⟨_, rfl⟩
  rw [hM] at D hdl ⊢
  rw [hp] at D ⊢
  obtain ⟨p0, p1, p2, p3, p4, p5, p6⟩ := p
  obtain ⟨ml, hml⟩ : ∃ ml, M.length = ml := ⟨_, rfl⟩
  unfold RDropEnd at D
  unfold RPutEnd
  simp only [hml] at D
  have K1 := fun u a1 c1 (g : PGood u a1 ml c1 M) => refBehind_any a1 ml c1 M (p0, p1, p2, p3, p4, p5, p6) u g (by omega)
  have K2 := fun u a1 c1 (g : PGood u a1 ml c1 M) => refInsert_any a1 ml c1 (qBeh M (p0, p1, p2, p3, p4, p5, p6)) M (p0, p1, p2, p3, p4, p5, p6) u g (by omega) (by have := qBeh_le M (p0, p1, p2, p3, p4, p5, p6); omega)
  obtain ⟨k, hk⟩ : ∃ k, qBeh M (p0, p1, p2, p3, p4, p5, p6) = k := ⟨_, rfl⟩
  have hk2 : qBeh M (p0, p1, p2, p3, p4, p5, p6) = k := hk
  simp only [hk] at K1 K2
  rw [hk2]
  clear hh h hl hM hp hml hdl hk hk2 hm
  go_enter Try.func15, Try.ntmps15
  go_wp2_with fail
  go_at_call 11
  refine D.mono ?_
  rintro e w1 ⟨a1, c1, rfl, g1, hb⟩
  obtain ⟨w2, hw2⟩ : ∃ w2, w2 = w1.alloc (.cells #[.int .i64 p0, .int .i64 p1, .int .i64 p2, .int .i64 p3, .int .i64 p4, .int .i64 p5, .int .i64 p6] 25) := ⟨_, rfl⟩
  have B2 : Hid (Below w.heap.size w w2) := by rw [hw2]; exact hb.alloc hb.size _
  have X2 : Hid (At7 w2 w1.heap.size 0 (p0, p1, p2, p3, p4, p5, p6)) := by rw [hw2]; exact At7.new w1 (p0, p1, p2, p3, p4, p5, p6) _ _
  have G2 : Hid (PGood w2 a1 ml c1 M) := by rw [hw2]; exact g1.below (box_below _ _)
  have HW : Hid (w2 = _) := hw2
  clear g1 hb D hw2
  go_wp2_with fail
  rw [← HW.out]
  clear HW
  refine region_owes (L := [Fact.is (.slice a1 ml c1),
    Fact.is (.slice a1 ml c1),
    Fact.is (.agg #[.int .i64 p0, .int .i64 p1, .int .i64 p2, .int .i64 p3, .int .i64 p4, .int .i64 p5, .int .i64 p6]),
    Fact.is (.int .i64 k),
    Fact.is (.agg #[.int .i64 p0, .int .i64 p1, .int .i64 p2, .int .i64 p3, .int .i64 p4, .int .i64 p5, .int .i64 p6]),
    Fact.pnew w.heap.size (qIns M k (p0, p1, p2, p3, p4, p5, p6)),
    Fact.pnew w.heap.size (qIns M k (p0, p1, p2, p3, p4, p5, p6)),
    Fact.is (.int .i64 0)])
    (T := [20, 21, 22, 23, 24, 25, 4, 5]) (by kernel_rfl) (by kernel_rfl) rfl ?owes ?_
  case owes =>
    refine .cons (owes_move (.tmp 6) (.inl rfl) fun q u lh => ⟨wants_free rfl, lh.old 6 rfl⟩) ?_
    refine .cons (owes_move (.tmp 6) (.inl rfl) fun q u lh => ⟨wants_free rfl, lh.old 6 rfl⟩) ?_
    refine .cons (owes_value fun q u lh => ⟨wants_free rfl, .agg #[.int .i64 p0, .int .i64 p1, .int .i64 p2, .int .i64 p3, .int .i64 p4, .int .i64 p5, .int .i64 p6], by have e7 : q.tmps.getD 7 undef = .pointer (some ⟨w1.heap.size, 0, none⟩) := lh.old 7 rfl; obtain ⟨z0, z1, z2, z3, z4, z5, z6⟩ := X2.out.below lh.below; simp [execOp, Act.eval, e7, z0, z1, z2, z3, z4, z5, z6, go_sem], rfl⟩) ?_
    refine .cons (owes_call 28 Try.func28 (by kernel_rfl) (by kernel_rfl) [.tmp 21, .tmp 22] #[23, 25] rfl fun q u lh => ⟨wants_free rfl, by have e21 : q.tmps.getD 21 undef = .slice a1 ml c1 := lh.dep 1 rfl; have e22 : q.tmps.getD 22 undef = .agg #[.int .i64 p0, .int .i64 p1, .int .i64 p2, .int .i64 p3, .int .i64 p4, .int .i64 p5, .int .i64 p6] := lh.dep 2 rfl; show Calls Try.prog 28 #[q.tmps.getD 21 undef, q.tmps.getD 22 undef] u _; rw [e21, e22]; exact int_fact (K1 u a1 c1 (G2.out.below lh.below))⟩) ?_
    refine .cons (owes_value fun q u lh => ⟨wants_free rfl, .agg #[.int .i64 p0, .int .i64 p1, .int .i64 p2, .int .i64 p3, .int .i64 p4, .int .i64 p5, .int .i64 p6], by have e7 : q.tmps.getD 7 undef = .pointer (some ⟨w1.heap.size, 0, none⟩) := lh.old 7 rfl; obtain ⟨z0, z1, z2, z3, z4, z5, z6⟩ := X2.out.below lh.below; simp [execOp, Act.eval, e7, z0, z1, z2, z3, z4, z5, z6, go_sem], rfl⟩) ?_
    refine .cons (owes_call 27 Try.func27 (by kernel_rfl) (by kernel_rfl) [.tmp 20, .tmp 23, .tmp 24] #[23, 3, 25] rfl fun q u lh => ⟨wants_free rfl, by have e20 : q.tmps.getD 20 undef = .slice a1 ml c1 := lh.dep 0 rfl; have e23 : q.tmps.getD 23 undef = .int .i64 k := lh.dep 3 rfl; have e24 : q.tmps.getD 24 undef = .agg #[.int .i64 p0, .int .i64 p1, .int .i64 p2, .int .i64 p3, .int .i64 p4, .int .i64 p5, .int .i64 p6] := lh.dep 4 rfl; show Calls Try.prog 27 #[q.tmps.getD 20 undef, q.tmps.getD 23 undef, q.tmps.getD 24 undef] u _; rw [e20, e23, e24]; exact pend_fact (Nat.le_trans B2.out.size lh.below.size) (K2 u a1 c1 (G2.out.below lh.below))⟩) ?_
    refine .cons (owes_move (.tmp 25) (.inr rfl) fun q u lh => ⟨wants_free rfl, lh.dep 5 rfl⟩) ?_
    refine .cons (owes_value fun q u lh => ⟨wants_free rfl, .int .i64 0, by simp [execOp, Act.eval, go_sem], rfl⟩) ?_
    exact .nil _
  intro q u hb hsz hdf hold hfact
  obtain ⟨v25, e25⟩ : ∃ v, q.tmps.getD 25 undef = v := ⟨_, rfl⟩
  have f25 : (Fact.pnew w.heap.size (qIns M k (p0, p1, p2, p3, p4, p5, p6))).1 u v25 := by rw [← e25]; exact hfact 5 (by decide)
  obtain ⟨a4, m4, e4, g4, n4⟩ : (Fact.pnew w.heap.size (qIns M k (p0, p1, p2, p3, p4, p5, p6))).1 u (q.tmps.getD 4 undef) := hfact 6 (by decide)
  obtain rfl := frame_puts hsz hdf [20, 21, 22, 23, 24, 25, 4, 5] hold [(20, Value.slice a1 ml c1), (21, Value.slice a1 ml c1), (22, Value.agg #[.int .i64 p0, .int .i64 p1, .int .i64 p2, .int .i64 p3, .int .i64 p4, .int .i64 p5, .int .i64 p6]), (23, Value.int .i64 k), (24, Value.agg #[.int .i64 p0, .int .i64 p1, .int .i64 p2, .int .i64 p3, .int .i64 p4, .int .i64 p5, .int .i64 p6]), (25, v25), (4, Value.slice a4 (qIns M k (p0, p1, p2, p3, p4, p5, p6)).length m4), (5, Value.int .i64 0)] ⟨hfact 0 (by decide), hfact 1 (by decide), hfact 2 (by decide), hfact 3 (by decide), hfact 4 (by decide), e25, e4, hfact 7 (by decide), trivial⟩ rfl
  clear hsz hdf hold hfact
  simp only [puts, Act.put, List.setIfInBounds_toArray, List.set_cons_zero, List.set_cons_succ]
  have B3 : Hid (Below w.heap.size w u) := B2.out.trans (hb.mono B2.out.size)
  clear hb K1 K2 X2 B2
  go_wp2
  go_ret2
  exact ⟨a4, m4, rfl, g4, B3.out⟩

theorem refBack_any (a : Option Addr) (n c : Nat) (L : List P7) (x : Int) (w : World) (h : PGood w a n c L) (hm : n ≤ 100000) :
    Calls Try.prog 15 #[.slice a n c, .int .i64 x] w (RPutEnd w (qBack L x) (qDropE L x)) := by
  cases hh : qHas L x with
  | true => exact refBack_yes a n c L x w h hm hh
  | false => exact refBack_no a n c L x w h hm hh

set_option maxHeartbeats 4000000 in
theorem refClass_no (a : Option Addr) (n c : Nat) (L : List P7) (x cl : Int) (w : World) (h : PGood w a n c L) (hm : n ≤ 100000) (hh : qHas L x = false) :
    Calls Try.prog 17 #[.slice a n c, .int .i64 x, .int .i64 cl] w (RPutEnd w (qClass L x cl) (qDropE L x)) := by
  have D := refDrop_any a n c L x w h hm
  rw [(drop_no hh).1, (drop_no hh).2.1, (drop_no hh).2.2, show p70 = (0, 0, 0, 0, 0, 0, 0) from rfl] at D
  rw [class_no hh, (drop_no hh).2.2]
  have hl := h.len
  have R : Hid (∀ u, Below w.heap.size w u → RPutEnd w L 4 (.returned (.tuple #[.slice a n c, .int .i64 4])) (u.alloc (.cells #[.int .i64 0, .int .i64 0, .int .i64 0, .int .i64 0, .int .i64 0, .int .i64 0, .int .i64 0] 25))) := fun u hb => ⟨a, c, by rw [← hl], by rw [← hl]; exact (h.below hb).below (box_below _ _), hb.alloc hb.size _⟩
  obtain ⟨nl, hnl⟩ : ∃ nl, L.length = nl := ⟨_, rfl⟩
  unfold RDropEnd at D
  simp only [hnl] at D
  clear hh h hm hnl hl
  go_enter Try.func17, Try.ntmps17
  go_wp2_with fail
  go_at_call 11
  refine D.mono ?_
  rintro e w1 ⟨a1, c1, rfl, g1, hb⟩
  have R1 : Hid (RPutEnd w L 4 (.returned (.tuple #[.slice a n c, .int .i64 4])) (w1.alloc (.cells #[.int .i64 0, .int .i64 0, .int .i64 0, .int .i64 0, .int .i64 0, .int .i64 0, .int .i64 0] 25))) := R.out w1 hb
  clear g1 hb D R
  go_wp2
  go_ret2
  exact R1.out

set_option maxHeartbeats 4000000 in
set_option maxRecDepth 100000 in
theorem refClass_yes (a : Option Addr) (n c : Nat) (L : List P7) (x cl : Int) (w : World) (h : PGood w a n c L) (hm : n ≤ 100000) (hh : qHas L x = true) :
    Calls Try.prog 17 #[.slice a n c, .int .i64 x, .int .i64 cl] w (RPutEnd w (qClass L x cl) (qDropE L x)) := by
  have hl := h.len
  have D := refDrop_any a n c L x w h hm
  rw [(drop_yes hh).2.2] at D
  rw [class_yes hh, (drop_yes hh).2.2]
  have hdl := drop_le L x
  obtain ⟨M, hM⟩ : ∃ M, qDrop L x = M := ⟨_, rfl⟩
  obtain ⟨p, hp⟩ : ∃ p, qDropP L x = p := ⟨_, rfl⟩
  rw [hM] at D hdl ⊢
  rw [hp] at D ⊢
  obtain ⟨p0, p1, p2, p3, p4, p5, p6⟩ := p
  obtain ⟨ml, hml⟩ : ∃ ml, M.length = ml := ⟨_, rfl⟩
  unfold RDropEnd at D
  unfold RPutEnd
  simp only [hml] at D
  have K1 := fun u a1 c1 (g : PGood u a1 ml c1 M) => refBehind_any a1 ml c1 M (p0, p1, p2, p3, cl, p5, p6) u g (by omega)
  have K2 := fun u a1 c1 (g : PGood u a1 ml c1 M) => refInsert_any a1 ml c1 (qBeh M (p0, p1, p2, p3, cl, p5, p6)) M (p0, p1, p2, p3, cl, p5, p6) u g (by omega) (by have := qBeh_le M (p0, p1, p2, p3, cl, p5, p6); omega)
  obtain ⟨k, hk⟩ : ∃ k, qBeh M (p0, p1, p2, p3, cl, p5, p6) = k := ⟨_, rfl⟩
  have hk2 : qBeh M (setC (p0, p1, p2, p3, p4, p5, p6) cl) = k := hk
  simp only [hk] at K1 K2
  rw [hk2]
  rw [show setC (p0, p1, p2, p3, p4, p5, p6) cl = (p0, p1, p2, p3, cl, p5, p6) from rfl]
  clear hh h hl hM hp hml hdl hk hk2 hm
  go_enter Try.func17, Try.ntmps17
  go_wp2_with fail
  go_at_call 11
  refine D.mono ?_
  rintro e w1 ⟨a1, c1, rfl, g1, hb⟩
  obtain ⟨w2, hw2⟩ : ∃ w2, w2 = w1.alloc (.cells #[.int .i64 p0, .int .i64 p1, .int .i64 p2, .int .i64 p3, .int .i64 cl, .int .i64 p5, .int .i64 p6] 25) := ⟨_, rfl⟩
  have B2 : Hid (Below w.heap.size w w2) := by rw [hw2]; exact hb.alloc hb.size _
  have X2 : Hid (At7 w2 w1.heap.size 0 (p0, p1, p2, p3, cl, p5, p6)) := by rw [hw2]; exact At7.new w1 (p0, p1, p2, p3, cl, p5, p6) _ _
  have G2 : Hid (PGood w2 a1 ml c1 M) := by rw [hw2]; exact g1.below (box_below _ _)
  have HW : Hid (w2 = _) := hw2
  clear g1 hb D hw2
  go_wp2_with fail
  rw [← HW.out]
  clear HW
  refine region_owes (L := [Fact.is (.slice a1 ml c1),
    Fact.is (.slice a1 ml c1),
    Fact.is (.agg #[.int .i64 p0, .int .i64 p1, .int .i64 p2, .int .i64 p3, .int .i64 cl, .int .i64 p5, .int .i64 p6]),
    Fact.is (.int .i64 k),
    Fact.is (.agg #[.int .i64 p0, .int .i64 p1, .int .i64 p2, .int .i64 p3, .int .i64 cl, .int .i64 p5, .int .i64 p6]),
    Fact.pnew w.heap.size (qIns M k (p0, p1, p2, p3, cl, p5, p6)),
    Fact.pnew w.heap.size (qIns M k (p0, p1, p2, p3, cl, p5, p6)),
    Fact.is (.int .i64 0)])
    (T := [24, 25, 26, 27, 28, 29, 6, 7]) (by kernel_rfl) (by kernel_rfl) rfl ?owes ?_
  case owes =>
    refine .cons (owes_move (.tmp 8) (.inl rfl) fun q u lh => ⟨wants_free rfl, lh.old 8 rfl⟩) ?_
    refine .cons (owes_move (.tmp 8) (.inl rfl) fun q u lh => ⟨wants_free rfl, lh.old 8 rfl⟩) ?_
    refine .cons (owes_value fun q u lh => ⟨wants_free rfl, .agg #[.int .i64 p0, .int .i64 p1, .int .i64 p2, .int .i64 p3, .int .i64 cl, .int .i64 p5, .int .i64 p6], by have e9 : q.tmps.getD 9 undef = .pointer (some ⟨w1.heap.size, 0, none⟩) := lh.old 9 rfl; obtain ⟨z0, z1, z2, z3, z4, z5, z6⟩ := X2.out.below lh.below; simp [execOp, Act.eval, e9, z0, z1, z2, z3, z4, z5, z6, go_sem], rfl⟩) ?_
    refine .cons (owes_call 28 Try.func28 (by kernel_rfl) (by kernel_rfl) [.tmp 25, .tmp 26] #[23, 25] rfl fun q u lh => ⟨wants_free rfl, by have e25 : q.tmps.getD 25 undef = .slice a1 ml c1 := lh.dep 1 rfl; have e26 : q.tmps.getD 26 undef = .agg #[.int .i64 p0, .int .i64 p1, .int .i64 p2, .int .i64 p3, .int .i64 cl, .int .i64 p5, .int .i64 p6] := lh.dep 2 rfl; show Calls Try.prog 28 #[q.tmps.getD 25 undef, q.tmps.getD 26 undef] u _; rw [e25, e26]; exact int_fact (K1 u a1 c1 (G2.out.below lh.below))⟩) ?_
    refine .cons (owes_value fun q u lh => ⟨wants_free rfl, .agg #[.int .i64 p0, .int .i64 p1, .int .i64 p2, .int .i64 p3, .int .i64 cl, .int .i64 p5, .int .i64 p6], by have e9 : q.tmps.getD 9 undef = .pointer (some ⟨w1.heap.size, 0, none⟩) := lh.old 9 rfl; obtain ⟨z0, z1, z2, z3, z4, z5, z6⟩ := X2.out.below lh.below; simp [execOp, Act.eval, e9, z0, z1, z2, z3, z4, z5, z6, go_sem], rfl⟩) ?_
    refine .cons (owes_call 27 Try.func27 (by kernel_rfl) (by kernel_rfl) [.tmp 24, .tmp 27, .tmp 28] #[23, 3, 25] rfl fun q u lh => ⟨wants_free rfl, by have e24 : q.tmps.getD 24 undef = .slice a1 ml c1 := lh.dep 0 rfl; have e27 : q.tmps.getD 27 undef = .int .i64 k := lh.dep 3 rfl; have e28 : q.tmps.getD 28 undef = .agg #[.int .i64 p0, .int .i64 p1, .int .i64 p2, .int .i64 p3, .int .i64 cl, .int .i64 p5, .int .i64 p6] := lh.dep 4 rfl; show Calls Try.prog 27 #[q.tmps.getD 24 undef, q.tmps.getD 27 undef, q.tmps.getD 28 undef] u _; rw [e24, e27, e28]; exact pend_fact (Nat.le_trans B2.out.size lh.below.size) (K2 u a1 c1 (G2.out.below lh.below))⟩) ?_
    refine .cons (owes_move (.tmp 29) (.inr rfl) fun q u lh => ⟨wants_free rfl, lh.dep 5 rfl⟩) ?_
    refine .cons (owes_value fun q u lh => ⟨wants_free rfl, .int .i64 0, by simp [execOp, Act.eval, go_sem], rfl⟩) ?_
    exact .nil _
  intro q u hb hsz hdf hold hfact
  obtain ⟨v29, e29⟩ : ∃ v, q.tmps.getD 29 undef = v := ⟨_, rfl⟩
  have f29 : (Fact.pnew w.heap.size (qIns M k (p0, p1, p2, p3, cl, p5, p6))).1 u v29 := by rw [← e29]; exact hfact 5 (by decide)
  obtain ⟨a4, m4, e4, g4, n4⟩ : (Fact.pnew w.heap.size (qIns M k (p0, p1, p2, p3, cl, p5, p6))).1 u (q.tmps.getD 6 undef) := hfact 6 (by decide)
  obtain rfl := frame_puts hsz hdf [24, 25, 26, 27, 28, 29, 6, 7] hold [(24, Value.slice a1 ml c1), (25, Value.slice a1 ml c1), (26, Value.agg #[.int .i64 p0, .int .i64 p1, .int .i64 p2, .int .i64 p3, .int .i64 cl, .int .i64 p5, .int .i64 p6]), (27, Value.int .i64 k), (28, Value.agg #[.int .i64 p0, .int .i64 p1, .int .i64 p2, .int .i64 p3, .int .i64 cl, .int .i64 p5, .int .i64 p6]), (29, v29), (6, Value.slice a4 (qIns M k (p0, p1, p2, p3, cl, p5, p6)).length m4), (7, Value.int .i64 0)] ⟨hfact 0 (by decide), hfact 1 (by decide), hfact 2 (by decide), hfact 3 (by decide), hfact 4 (by decide), e29, e4, hfact 7 (by decide), trivial⟩ rfl
  clear hsz hdf hold hfact
  simp only [puts, Act.put, List.setIfInBounds_toArray, List.set_cons_zero, List.set_cons_succ]
  have B3 : Hid (Below w.heap.size w u) := B2.out.trans (hb.mono B2.out.size)
  clear hb K1 K2 X2 B2
  go_wp2
  go_ret2
  exact ⟨a4, m4, rfl, g4, B3.out⟩

theorem refClass_any (a : Option Addr) (n c : Nat) (L : List P7) (x cl : Int) (w : World) (h : PGood w a n c L) (hm : n ≤ 100000) :
    Calls Try.prog 17 #[.slice a n c, .int .i64 x, .int .i64 cl] w (RPutEnd w (qClass L x cl) (qDropE L x)) := by
  cases hh : qHas L x with
  | true => exact refClass_yes a n c L x cl w h hm hh
  | false => exact refClass_no a n c L x cl w h hm hh

end Go.Proofs.Ytjibnbheegcnkaa
