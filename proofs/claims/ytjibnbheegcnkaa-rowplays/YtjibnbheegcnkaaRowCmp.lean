/-
  row: which of two payments stands ahead: the program's answer and the document's.
-/
import Derived.Test.YtjibnbheegcnkaaRowSpec
import Derived.Test.YtjibnbheegcnkaaFactK
import Derived.Test.YtjibnbheegcnkaaFactsIf
namespace Go.Proofs.Ytjibnbheegcnkaa
open Go.RowKit
set_option linter.unusedVariables false
set_option linter.unusedSimpArgs false

theorem cmpNaNi_any (x : Int) (w : World) : Calls Try.prog 41 #[.int .i64 x] w fun e w' => e = .returned (.bool false) ∧ w' = w := by
  go_enter Try.func41, Try.ntmps41
  go_wp2
  go_ret
  exact ⟨by simp, rfl⟩
theorem cmpI_lt {x y : Int} (h : x < y) : -1 = cmpI x y := by simp [cmpI, h]
theorem cmpI_gt {x y : Int} (h : y < x) : 1 = cmpI x y := by unfold cmpI; rw [if_neg (by omega), if_pos h]
theorem cmpI_eq {x y : Int} (h : x = y) : 0 = cmpI x y := by unfold cmpI; rw [if_neg (by omega), if_neg (by omega)]
theorem compare_any (x y : Int) (w : World) : Calls Try.prog 40 #[.int .i64 x, .int .i64 y] w fun e w' => e = .returned (.int .i64 (cmpI x y)) ∧ w' = w := by
  rcases (by omega : x < y ∨ y < x ∨ x = y) with h | h | h
  · have H : Hid (-1 = cmpI x y) := cmpI_lt h
    go_enter Try.func40, Try.ntmps40
    go_wp2_with (go_at_call 41; refine (cmpNaNi_any _ _).mono ?_; rintro e w' ⟨rfl, rfl⟩)
    go_ret
    exact ⟨rt_int H.out, rfl⟩
  · have H : Hid (1 = cmpI x y) := cmpI_gt h
    have h2 : ¬ x < y := by omega
    go_enter Try.func40, Try.ntmps40
    go_wp2_with (go_at_call 41; refine (cmpNaNi_any _ _).mono ?_; rintro e w' ⟨rfl, rfl⟩)
    go_ret
    exact ⟨rt_int H.out, rfl⟩
  · have H : Hid (0 = cmpI x y) := cmpI_eq h
    subst h
    go_enter Try.func40, Try.ntmps40
    go_wp2_with (go_at_call 41; refine (cmpNaNi_any _ _).mono ?_; rintro e w' ⟨rfl, rfl⟩)
    go_ret
    exact ⟨rt_int H.out, rfl⟩

theorem or_two (b c : Nat) (x y : Int) (w : World) (h0 : w.cell? ⟨b, 0, none⟩ = some (.int .i64 x)) (h1 : w.cell? ⟨b, 1, none⟩ = some (.int .i64 y)) :
    Calls Try.prog 39 #[.slice (some ⟨b, 0, none⟩) 2 c] w fun e w' => e = .returned (.int .i64 (orI x y)) ∧ w' = w := by
  by_cases hx : x = 0
  · subst hx
    have H : Hid (y = orI 0 y) := by simp [Hid, orI]
    by_cases hy : y = 0
    · subst hy
      go_enter Try.func39, Try.ntmps39
      go_wp2
      refine wp_loop_rounds 3 ?_
      rw [rounds_succ]
      go_wp2
      rw [rounds_succ]
      go_wp2
      rw [rounds_succ]
      go_wp2
      go_ret
      exact ⟨rt_int H.out, rfl⟩
    · have hy' : (y == 0) = false := by simpa using hy
      go_enter Try.func39, Try.ntmps39
      go_wp2
      refine wp_loop_rounds 3 ?_
      rw [rounds_succ]
      go_wp2
      rw [rounds_succ]
      go_wp2
      go_ret
      exact ⟨rt_int H.out, rfl⟩
  · have H : Hid (x = orI x y) := by simp [Hid, orI, hx]
    have hx' : (x == 0) = false := by simpa using hx
    go_enter Try.func39, Try.ntmps39
    go_wp2
    refine wp_loop_rounds 3 ?_
    rw [rounds_succ]
    go_wp2
    go_ret
    exact ⟨rt_int H.out, rfl⟩

/-- Two numbers that were just laid. -/
def Fact.two (x y : Int) : Fact := ⟨fun w v => ∃ b, v = .slice (some ⟨b, 0, none⟩) 2 2 ∧ w.cell? ⟨b, 0, none⟩ = some (.int .i64 x) ∧ w.cell? ⟨b, 1, none⟩ = some (.int .i64 y), fun w w' v hb ⟨b, h1, h2, h3⟩ => ⟨b, h1, (hb.cell (p := ⟨b, 0, none⟩) (block_lt_of_cell h2)).trans h2, (hb.cell (p := ⟨b, 1, none⟩) (block_lt_of_cell h3)).trans h3⟩⟩

/-- Two payments that a call has boxed. -/
theorem two_boxes (w : World) (p q : P7) (T1 T2 : TypeId) : ∃ w2, w2 = (w.alloc (.cells #[.int .i64 p.id, .int .i64 p.fr, .int .i64 p.to, .int .i64 p.am, .int .i64 p.cl, .int .i64 p.st, .int .i64 p.ti] T1)).alloc (.cells #[.int .i64 q.id, .int .i64 q.fr, .int .i64 q.to, .int .i64 q.am, .int .i64 q.cl, .int .i64 q.st, .int .i64 q.ti] T2) ∧ Below w.heap.size w w2 ∧ At7 w2 w.heap.size 0 p ∧ At7 w2 (w.heap.size + 1) 0 q := by
  refine ⟨_, rfl, (box_below _ _).alloc (box_below _ _).size _, (At7.new w p _ _).below (box_below _ _), ?_⟩
  have := At7.new (w.alloc (.cells #[.int .i64 p.id, .int .i64 p.fr, .int .i64 p.to, .int .i64 p.am, .int .i64 p.cl, .int .i64 p.st, .int .i64 p.ti] T1)) q T2 (0, 0)
  rw [size_alloc] at this
  exact this

set_option maxHeartbeats 4000000 in
set_option maxRecDepth 100000 in
theorem order_any (p q : P7) (w : World) : Calls Try.prog 34 #[p.val, q.val] w fun e w' => e = .returned (.int .i64 (qOrd p q)) ∧ Below w.heap.size w w' := by
  obtain ⟨i1, f1, o1, m1, c1, s1, u1⟩ := p
  obtain ⟨i2, f2, o2, m2, c2, s2, u2⟩ := q
  obtain ⟨w2, hw2, b2, x1, x2⟩ := two_boxes w (i1, f1, o1, m1, c1, s1, u1) (i2, f2, o2, m2, c2, s2, u2) 25 25
  have X1 : Hid (At7 w2 w.heap.size 0 (i1, f1, o1, m1, c1, s1, u1)) := x1
  have X2 : Hid (At7 w2 (w.heap.size + 1) 0 (i2, f2, o2, m2, c2, s2, u2)) := x2
  have B2 : Hid (Below w.heap.size w w2) := b2
  have HW : Hid (w2 = _) := hw2
  have A1 := fun u => compare_any f1 f2 u
  have A2 := fun u => compare_any c1 c2 u
  obtain ⟨r1, hr1⟩ : ∃ r, cmpI f1 f2 = r := ⟨_, rfl⟩
  obtain ⟨r2, hr2⟩ : ∃ r, cmpI c1 c2 = r := ⟨_, rfl⟩
  have HR : Hid (orI r1 r2 = qOrd (i1, f1, o1, m1, c1, s1, u1) (i2, f2, o2, m2, c2, s2, u2)) := by subst hr1 hr2; rfl
  rw [hr1] at A1
  rw [hr2] at A2
  clear x1 x2 b2 hw2 hr1 hr2
  go_enter Try.func34, Try.ntmps34
  go_wp2_with fail
  rw [← HW.out]
  refine region_owes (L := [Fact.is (.pointer (some ⟨w.heap.size, 1, none⟩)),
    Fact.is (.int .i64 f1),
    Fact.is (.pointer (some ⟨w.heap.size + 1, 1, none⟩)),
    Fact.is (.int .i64 f2),
    Fact.is (.int .i64 r1),
    Fact.is (.pointer (some ⟨w.heap.size, 4, none⟩)),
    Fact.is (.int .i64 c1),
    Fact.is (.pointer (some ⟨w.heap.size + 1, 4, none⟩)),
    Fact.is (.int .i64 c2),
    Fact.is (.int .i64 r2),
    Fact.two r1 r2,
    Fact.is (.int .i64 (orI r1 r2)),
    Fact.is (.int .i64 (orI r1 r2))])
    (T := [5, 6, 7, 8, 9, 10, 11, 12, 13, 14, 15, 16, 4]) (by kernel_rfl) (by kernel_rfl) rfl ?owes ?_
  case owes =>
    refine .cons (owes_value fun q u lh => ⟨wants_free rfl, .pointer (some ⟨w.heap.size, 1, none⟩), by have e2 : q.tmps.getD 2 undef = .pointer (some ⟨w.heap.size, 0, none⟩) := lh.old 2 rfl; simp [execOp, Act.eval, e2, go_sem], rfl⟩) ?_
    refine .cons (owes_value fun q u lh => ⟨wants_free rfl, .int .i64 f1, by have e5 : q.tmps.getD 5 undef = .pointer (some ⟨w.heap.size, 1, none⟩) := lh.dep 0 rfl; obtain ⟨p0, p1, p2, p3, p4, p5, p6⟩ := X1.out.below lh.below; simp [execOp, Act.eval, e5, p1, go_sem], rfl⟩) ?_
    refine .cons (owes_value fun q u lh => ⟨wants_free rfl, .pointer (some ⟨w.heap.size + 1, 1, none⟩), by have e3 : q.tmps.getD 3 undef = .pointer (some ⟨w.heap.size + 1, 0, none⟩) := lh.old 3 rfl; simp [execOp, Act.eval, e3, go_sem], rfl⟩) ?_
    refine .cons (owes_value fun q u lh => ⟨wants_free rfl, .int .i64 f2, by have e7 : q.tmps.getD 7 undef = .pointer (some ⟨w.heap.size + 1, 1, none⟩) := lh.dep 2 rfl; obtain ⟨p0, p1, p2, p3, p4, p5, p6⟩ := X2.out.below lh.below; simp [execOp, Act.eval, e7, p1, go_sem], rfl⟩) ?_
    refine .cons (owes_call 40 Try.func40 (by kernel_rfl) (by kernel_rfl) [.tmp 6, .tmp 8] #[3, 3] rfl fun q u lh => ⟨wants_free rfl, by have e6 : q.tmps.getD 6 undef = .int .i64 f1 := lh.dep 1 rfl; have e8 : q.tmps.getD 8 undef = .int .i64 f2 := lh.dep 3 rfl; show Calls Try.prog 40 #[q.tmps.getD 6 undef, q.tmps.getD 8 undef] u _; rw [e6, e8]; exact int_fact ((A1 u).mono fun e w' ⟨h1, h2⟩ => ⟨h1, h2 ▸ Below.refl _ _⟩)⟩) ?_
    refine .cons (owes_value fun q u lh => ⟨wants_free rfl, .pointer (some ⟨w.heap.size, 4, none⟩), by have e2 : q.tmps.getD 2 undef = .pointer (some ⟨w.heap.size, 0, none⟩) := lh.old 2 rfl; simp [execOp, Act.eval, e2, go_sem], rfl⟩) ?_
    refine .cons (owes_value fun q u lh => ⟨wants_free rfl, .int .i64 c1, by have e10 : q.tmps.getD 10 undef = .pointer (some ⟨w.heap.size, 4, none⟩) := lh.dep 5 rfl; obtain ⟨p0, p1, p2, p3, p4, p5, p6⟩ := X1.out.below lh.below; simp [execOp, Act.eval, e10, p4, go_sem], rfl⟩) ?_
    refine .cons (owes_value fun q u lh => ⟨wants_free rfl, .pointer (some ⟨w.heap.size + 1, 4, none⟩), by have e3 : q.tmps.getD 3 undef = .pointer (some ⟨w.heap.size + 1, 0, none⟩) := lh.old 3 rfl; simp [execOp, Act.eval, e3, go_sem], rfl⟩) ?_
    refine .cons (owes_value fun q u lh => ⟨wants_free rfl, .int .i64 c2, by have e12 : q.tmps.getD 12 undef = .pointer (some ⟨w.heap.size + 1, 4, none⟩) := lh.dep 7 rfl; obtain ⟨p0, p1, p2, p3, p4, p5, p6⟩ := X2.out.below lh.below; simp [execOp, Act.eval, e12, p4, go_sem], rfl⟩) ?_
    refine .cons (owes_call 40 Try.func40 (by kernel_rfl) (by kernel_rfl) [.tmp 11, .tmp 13] #[3, 3] rfl fun q u lh => ⟨wants_free rfl, by have e11 : q.tmps.getD 11 undef = .int .i64 c1 := lh.dep 6 rfl; have e13 : q.tmps.getD 13 undef = .int .i64 c2 := lh.dep 8 rfl; show Calls Try.prog 40 #[q.tmps.getD 11 undef, q.tmps.getD 13 undef] u _; rw [e11, e13]; exact int_fact ((A2 u).mono fun e w' ⟨h1, h2⟩ => ⟨h1, h2 ▸ Below.refl _ _⟩)⟩) ?_
    refine .cons (owes_make fun q u lh => by have e9 : q.tmps[9]?.getD undef = .int .i64 r1 := (Array.getD_eq_getD_getElem? ..).symm.trans (lh.dep 4 rfl); have e14 : q.tmps[14]?.getD undef = .int .i64 r2 := (Array.getD_eq_getD_getElem? ..).symm.trans (lh.dep 9 rfl); exact ⟨wants_free rfl, .slice (some ⟨u.heap.size, 0, none⟩) 2 2, u.alloc (.cells #[.int .i64 r1, .int .i64 r2] 3), by simp [execOp, Act.eval, e9, e14, go_sem], box_below _ _, ⟨_, rfl, by rw [cell_new]; rfl, by rw [cell_new]; rfl⟩⟩) ?_
    refine .cons (owes_call 39 Try.func39 (by kernel_rfl) (by kernel_rfl) [.tmp 15] #[63] rfl fun q u lh => ⟨wants_free rfl, by obtain ⟨b, e15, t1, t2⟩ := lh.dep 10 rfl; have e15 : q.tmps.getD 15 undef = .slice (some ⟨b, 0, none⟩) 2 2 := e15; show Calls Try.prog 39 #[q.tmps.getD 15 undef] u _; rw [e15]; exact int_fact ((or_two b 2 r1 r2 u t1 t2).mono fun e w' ⟨h1, h2⟩ => ⟨h1, h2 ▸ Below.refl _ _⟩)⟩) ?_
    refine .cons (owes_move (.tmp 16) (.inr rfl) fun q u lh => ⟨wants_free rfl, lh.dep 11 rfl⟩) ?_
    exact .nil _
  intro q u hb hsz hdf hold hfact
  obtain ⟨v15, e15⟩ : ∃ v, q.tmps.getD 15 undef = v := ⟨_, rfl⟩
  have f15 : (Fact.two r1 r2).1 u v15 := by rw [← e15]; exact hfact 10 (by decide)
  obtain rfl := frame_puts hsz hdf [5, 6, 7, 8, 9, 10, 11, 12, 13, 14, 15, 16, 4] hold [(5, Value.pointer (some ⟨w.heap.size, 1, none⟩)), (6, Value.int .i64 f1), (7, Value.pointer (some ⟨w.heap.size + 1, 1, none⟩)), (8, Value.int .i64 f2), (9, Value.int .i64 r1), (10, Value.pointer (some ⟨w.heap.size, 4, none⟩)), (11, Value.int .i64 c1), (12, Value.pointer (some ⟨w.heap.size + 1, 4, none⟩)), (13, Value.int .i64 c2), (14, Value.int .i64 r2), (15, v15), (16, Value.int .i64 (orI r1 r2)), (4, Value.int .i64 (orI r1 r2))] ⟨hfact 0 (by decide), hfact 1 (by decide), hfact 2 (by decide), hfact 3 (by decide), hfact 4 (by decide), hfact 5 (by decide), hfact 6 (by decide), hfact 7 (by decide), hfact 8 (by decide), hfact 9 (by decide), e15, hfact 11 (by decide), hfact 12 (by decide), trivial⟩ rfl
  clear hsz hdf hold hfact
  have B3 : Hid (Below w.heap.size w u) := B2.out.trans (hb.mono B2.out.size)
  clear hb
  go_wp2
  simp only [puts, Act.put, List.setIfInBounds_toArray, List.set_cons_zero, List.set_cons_succ]
  go_ret
  exact ⟨rt_int HR.out, B3.out⟩

theorem qLe_lt {a b : P7} (h : a.fr < b.fr) : true = qLe a b := (qLe_iff.2 (.inl h)).symm
theorem qLe_gt {a b : P7} (h : b.fr < a.fr) : false = qLe a b := (qLe_not.2 (.inl h)).symm
theorem qLe_rest {a b : P7} (h : a.fr = b.fr) : decide (a.cl ≤ b.cl) = qLe a b := by rw [Bool.eq_iff_iff, decide_eq_true_eq, qLe_iff]; omega
set_option maxHeartbeats 4000000 in
theorem refAhead_any (p q : P7) (w : World) : Calls Try.prog 31 #[p.val, q.val] w fun e w' => e = .returned (.bool (qLe p q)) ∧ Below w.heap.size w w' := by
  obtain ⟨i1, f1, o1, m1, c1, s1, u1⟩ := p
  obtain ⟨i2, f2, o2, m2, c2, s2, u2⟩ := q
  have B2 : Hid (Below w.heap.size w ((w.alloc (.cells #[.int .i64 i1, .int .i64 f1, .int .i64 o1, .int .i64 m1, .int .i64 c1, .int .i64 s1, .int .i64 u1] 25)).alloc (.cells #[.int .i64 i2, .int .i64 f2, .int .i64 o2, .int .i64 m2, .int .i64 c2, .int .i64 s2, .int .i64 u2] 25))) := (box_below _ _).alloc (box_below _ _).size _
  rcases (by omega : f1 < f2 ∨ f2 < f1 ∨ f1 = f2) with h | h | h
  · have H : Hid (true = qLe (i1, f1, o1, m1, c1, s1, u1) (i2, f2, o2, m2, c2, s2, u2)) := qLe_lt (a := (i1, f1, o1, m1, c1, s1, u1)) (b := (i2, f2, o2, m2, c2, s2, u2)) h
    go_enter Try.func31, Try.ntmps31
    go_wp2
    go_ret
    exact ⟨rt_bool H.out, B2.out⟩
  · have H : Hid (false = qLe (i1, f1, o1, m1, c1, s1, u1) (i2, f2, o2, m2, c2, s2, u2)) := qLe_gt (a := (i1, f1, o1, m1, c1, s1, u1)) (b := (i2, f2, o2, m2, c2, s2, u2)) h
    have h2 : ¬ f1 < f2 := by omega
    have h3 : (f1 == f2) = false := by simp; omega
    go_enter Try.func31, Try.ntmps31
    go_wp2
    go_ret
    exact ⟨rt_bool H.out, B2.out⟩
  · have H : Hid (decide (c1 ≤ c2) = qLe (i1, f1, o1, m1, c1, s1, u1) (i2, f2, o2, m2, c2, s2, u2)) := qLe_rest (a := (i1, f1, o1, m1, c1, s1, u1)) (b := (i2, f2, o2, m2, c2, s2, u2)) h
    subst h
    go_enter Try.func31, Try.ntmps31
    go_wp2
    go_ret
    exact ⟨rt_bool H.out, B2.out⟩

end Go.Proofs.Ytjibnbheegcnkaa
