/-
  row.Front, row.Back, row.Class.
-/
import Derived.Test.YtjibnbheegcnkaaRowDrop
namespace Go.Proofs.Ytjibnbheegcnkaa
open Go.RowKit
set_option linter.unusedVariables false
set_option linter.unusedSimpArgs false

set_option maxHeartbeats 4000000 in
theorem front_no_any (a : Option Addr) (n c : Nat) (L : List P7) (x : Int) (w : World) (h : PGood w a n c L) (hm : n ≤ 100000) (hh : qHas L x = false) :
    Calls Try.prog 12 #[.slice a n c, .int .i64 x] w (PutEnd7 w (qFront L x) (qDropE L x)) := by
  have D := drop_any7 a n c L x w h hm
  rw [(drop_no hh).1, (drop_no hh).2.1, (drop_no hh).2.2, show p70 = (0, 0, 0, 0, 0, 0, 0) from rfl] at D
  rw [front_no hh, (drop_no hh).2.2]
  obtain ⟨nl, hnl⟩ : ∃ nl, L.length = nl := ⟨_, rfl⟩
  unfold DropEnd7 at D
  unfold PutEnd7
  simp only [hnl] at D ⊢
  clear hh h hm hnl
  go_enter Try.func12, Try.ntmps12
  go_wp2_with fail
  go_at_call 10
  refine D.mono ?_
  rintro e w1 ⟨a1, c1, rfl, g1, n1, hb⟩
  have R : Hid (PGood (w1.alloc (.cells #[.int .i64 0, .int .i64 0, .int .i64 0, .int .i64 0, .int .i64 0, .int .i64 0, .int .i64 0] 25)) a1 nl c1 L ∧ (∀ x, a1 = some x → w.heap.size ≤ x.block) ∧ Below w.heap.size w (w1.alloc (.cells #[.int .i64 0, .int .i64 0, .int .i64 0, .int .i64 0, .int .i64 0, .int .i64 0, .int .i64 0] 25))) := ⟨g1.below (box_below _ _), n1, hb.alloc hb.size _⟩
  clear g1 n1 hb D
  go_wp2
  go_ret2
  exact ⟨a1, c1, rfl, R.out.1, R.out.2.1, R.out.2.2⟩

set_option maxHeartbeats 4000000 in
set_option maxRecDepth 100000 in
theorem front_yes_any (a : Option Addr) (n c : Nat) (L : List P7) (x : Int) (w : World) (h : PGood w a n c L) (hq : Que L) (hh : qHas L x = true) :
    Calls Try.prog 12 #[.slice a n c, .int .i64 x] w (PutEnd7 w (qFront L x) (qDropE L x)) := by
  have hl := h.len
  have h4 := hq.1
  have hq2 := (hq.drop x).2
  have D := drop_any7 a n c L x w h (by omega)
  rw [(drop_yes hh).2.2] at D
  rw [front_yes hh, (drop_yes hh).2.2]
  have hdl := drop_le L x
  obtain ⟨M, hM⟩ : ∃ M, qDrop L x = M := ⟨_, rfl⟩
  obtain ⟨p, hp⟩ : ∃ p, qDropP L x = p := ⟨_, rfl⟩
  rw [hM] at D hdl hq2 ⊢
  rw [hp] at D ⊢
  obtain ⟨p0, p1, p2, p3, p4, p5, p6⟩ := p
  obtain ⟨ml, hml⟩ : ∃ ml, M.length = ml := ⟨_, rfl⟩
  unfold DropEnd7 at D
  unfold PutEnd7
  simp only [hml] at D
  have K1 := fun u a1 c1 (g : PGood u a1 ml c1 M) => ahd_any a1 ml c1 M (p0, p1, p2, p3, p4, p5, p6) u g.pays (by omega) hq2
  have K2 := fun u a1 c1 (g : PGood u a1 ml c1 M) => with_any a1 ml c1 (qAhd M (p0, p1, p2, p3, p4, p5, p6)) M (p0, p1, p2, p3, p4, p5, p6) u g (by omega) (by have := qAhd_le M (p0, p1, p2, p3, p4, p5, p6); omega)
  obtain ⟨k, hk⟩ : ∃ k, qAhd M (p0, p1, p2, p3, p4, p5, p6) = k := ⟨_, rfl⟩
  have hk2 : qAhd M (p0, p1, p2, p3, p4, p5, p6) = k := hk
  simp only [hk] at K1 K2
  rw [hk2]
  clear hh h hl h4 hq2 hM hp hml hdl hk hk2 hq
  go_enter Try.func12, Try.ntmps12
  go_wp2_with fail
  go_at_call 10
  refine D.mono ?_
  rintro e w1 ⟨a1, c1, rfl, g1, n1, hb⟩
  obtain ⟨w2, hw2⟩ : ∃ w2, w2 = w1.alloc (.cells #[.int .i64 p0, .int .i64 p1, .int .i64 p2, .int .i64 p3, .int .i64 p4, .int .i64 p5, .int .i64 p6] 25) := ⟨_, rfl⟩
  have B2 : Hid (Below w.heap.size w w2) := by rw [hw2]; exact hb.alloc hb.size _
  have X2 : Hid (At7 w2 w1.heap.size 0 (p0, p1, p2, p3, p4, p5, p6)) := by rw [hw2]; exact At7.new w1 (p0, p1, p2, p3, p4, p5, p6) _ _
  have G2 : Hid (PGood w2 a1 ml c1 M) := by rw [hw2]; exact g1.below (box_below _ _)
  have HW : Hid (w2 = _) := hw2
  clear g1 n1 hb D hw2
  go_wp2_with fail
  rw [← HW.out]
  clear HW
  refine region_owes (L := [Fact.is (.slice a1 ml c1),
    Fact.is (.slice a1 ml c1),
    Fact.is (.agg #[.int .i64 p0, .int .i64 p1, .int .i64 p2, .int .i64 p3, .int .i64 p4, .int .i64 p5, .int .i64 p6]),
    Fact.is (.int .i64 k),
    Fact.is (.agg #[.int .i64 p0, .int .i64 p1, .int .i64 p2, .int .i64 p3, .int .i64 p4, .int .i64 p5, .int .i64 p6]),
    Fact.pnew w.heap.size (qIns M k (p0, p1, p2, p3, p4, p5, p6)),
    Fact.pnew w.heap.size (qIns M k (p0, p1, p2, p3, p4, p5, p6)),
    Fact.is (.int .i64 0)])
    (T := [20, 21, 22, 23, 24, 25, 4, 5]) (by kernel_rfl) (by kernel_rfl) rfl ?owes ?_
  case owes =>
    refine .cons (owes_move (.tmp 6) (.inl rfl) fun q u lh => ⟨wants_free rfl, lh.old 6 rfl⟩) ?_
    refine .cons (owes_move (.tmp 6) (.inl rfl) fun q u lh => ⟨wants_free rfl, lh.old 6 rfl⟩) ?_
    refine .cons (owes_value fun q u lh => ⟨wants_free rfl, .agg #[.int .i64 p0, .int .i64 p1, .int .i64 p2, .int .i64 p3, .int .i64 p4, .int .i64 p5, .int .i64 p6], by have e7 : q.tmps.getD 7 undef = .pointer (some ⟨w1.heap.size, 0, none⟩) := lh.old 7 rfl; obtain ⟨z0, z1, z2, z3, z4, z5, z6⟩ := X2.out.below lh.below; simp [execOp, Act.eval, e7, z0, z1, z2, z3, z4, z5, z6, go_sem], rfl⟩) ?_
    refine .cons (owes_call 30 Try.func30 (by kernel_rfl) (by kernel_rfl) [.tmp 21, .tmp 22] #[23, 25] rfl fun q u lh => ⟨wants_free rfl, by have e21 : q.tmps.getD 21 undef = .slice a1 ml c1 := lh.dep 1 rfl; have e22 : q.tmps.getD 22 undef = .agg #[.int .i64 p0, .int .i64 p1, .int .i64 p2, .int .i64 p3, .int .i64 p4, .int .i64 p5, .int .i64 p6] := lh.dep 2 rfl; show Calls Try.prog 30 #[q.tmps.getD 21 undef, q.tmps.getD 22 undef] u _; rw [e21, e22]; exact int_fact (K1 u a1 c1 (G2.out.below lh.below))⟩) ?_
    refine .cons (owes_value fun q u lh => ⟨wants_free rfl, .agg #[.int .i64 p0, .int .i64 p1, .int .i64 p2, .int .i64 p3, .int .i64 p4, .int .i64 p5, .int .i64 p6], by have e7 : q.tmps.getD 7 undef = .pointer (some ⟨w1.heap.size, 0, none⟩) := lh.old 7 rfl; obtain ⟨z0, z1, z2, z3, z4, z5, z6⟩ := X2.out.below lh.below; simp [execOp, Act.eval, e7, z0, z1, z2, z3, z4, z5, z6, go_sem], rfl⟩) ?_
    refine .cons (owes_call 25 Try.func25 (by kernel_rfl) (by kernel_rfl) [.tmp 20, .tmp 23, .tmp 24] #[23, 3, 25] rfl fun q u lh => ⟨wants_free rfl, by have e20 : q.tmps.getD 20 undef = .slice a1 ml c1 := lh.dep 0 rfl; have e23 : q.tmps.getD 23 undef = .int .i64 k := lh.dep 3 rfl; have e24 : q.tmps.getD 24 undef = .agg #[.int .i64 p0, .int .i64 p1, .int .i64 p2, .int .i64 p3, .int .i64 p4, .int .i64 p5, .int .i64 p6] := lh.dep 4 rfl; show Calls Try.prog 25 #[q.tmps.getD 20 undef, q.tmps.getD 23 undef, q.tmps.getD 24 undef] u _; rw [e20, e23, e24]; exact pend_fact (Nat.le_trans B2.out.size lh.below.size) (K2 u a1 c1 (G2.out.below lh.below))⟩) ?_
    refine .cons (owes_move (.tmp 25) (.inr rfl) fun q u lh => ⟨wants_free rfl, lh.dep 5 rfl⟩) ?_
    refine .cons (owes_value fun q u lh => ⟨wants_free rfl, .int .i64 0, by simp [execOp, Act.eval, go_sem], rfl⟩) ?_
    exact .nil _
  intro q u hb hsz hdf hold hfact
  obtain ⟨v25, e25⟩ : ∃ v, q.tmps.getD 25 undef = v := ⟨_, rfl⟩
  have f25 : (Fact.pnew w.heap.size (qIns M k (p0, p1, p2, p3, p4, p5, p6))).1 u v25 := by rw [← e25]; exact hfact 5 (by decide)
  obtain ⟨a4, m4, e4, g4, n4⟩ : (Fact.pnew w.heap.size (qIns M k (p0, p1, p2, p3, p4, p5, p6))).1 u (q.tmps.getD 4 undef) := hfact 6 (by decide)
  obtain rfl := frame_puts hsz hdf [20, 21, 22, 23, 24, 25, 4, 5] hold [(20, Value.slice a1 ml c1), (21, Value.slice a1 ml c1), (22, Value.agg #[.int .i64 p0, .int .i64 p1, .int .i64 p2, .int .i64 p3, .int .i64 p4, .int .i64 p5, .int .i64 p6]), (23, Value.int .i64 k), (24, Value.agg #[.int .i64 p0, .int .i64 p1, .int .i64 p2, .int .i64 p3, .int .i64 p4, .int .i64 p5, .int .i64 p6]), (25, v25), (4, Value.slice a4 (qIns M k (p0, p1, p2, p3, p4, p5, p6)).length m4), (5, Value.int .i64 0)] ⟨hfact 0 (by decide), hfact 1 (by decide), hfact 2 (by decide), hfact 3 (by decide), hfact 4 (by decide), e25, e4, hfact 7 (by decide), trivial⟩ rfl
  clear hsz hdf hold hfact
  have B3 : Hid (Below w.heap.size w u) := B2.out.trans (hb.mono B2.out.size)
  clear hb K1 K2 X2 B2
  go_wp2
  simp only [puts, Act.put, List.setIfInBounds_toArray, List.set_cons_zero, List.set_cons_succ]
  go_ret2
  exact ⟨a4, m4, rfl, g4, n4, B3.out⟩

theorem front_any7 (a : Option Addr) (n c : Nat) (L : List P7) (x : Int) (w : World) (h : PGood w a n c L) (hq : Que L) :
    Calls Try.prog 12 #[.slice a n c, .int .i64 x] w (PutEnd7 w (qFront L x) (qDropE L x)) := by
  cases hh : qHas L x with
  | true => exact front_yes_any a n c L x w h hq hh
  | false => exact front_no_any a n c L x w h (by have := h.len; have := hq.1; omega) hh

set_option maxHeartbeats 4000000 in
theorem back_no_any (a : Option Addr) (n c : Nat) (L : List P7) (x : Int) (w : World) (h : PGood w a n c L) (hm : n ≤ 100000) (hh : qHas L x = false) :
    Calls Try.prog 14 #[.slice a n c, .int .i64 x] w (PutEnd7 w (qBack L x) (qDropE L x)) := by
  have D := drop_any7 a n c L x w h hm
  rw [(drop_no hh).1, (drop_no hh).2.1, (drop_no hh).2.2, show p70 = (0, 0, 0, 0, 0, 0, 0) from rfl] at D
  rw [back_no hh, (drop_no hh).2.2]
  obtain ⟨nl, hnl⟩ : ∃ nl, L.length = nl := ⟨_, rfl⟩
  unfold DropEnd7 at D
  unfold PutEnd7
  simp only [hnl] at D ⊢
  clear hh h hm hnl
  go_enter Try.func14, Try.ntmps14
  go_wp2_with fail
  go_at_call 10
  refine D.mono ?_
  rintro e w1 ⟨a1, c1, rfl, g1, n1, hb⟩
  have R : Hid (PGood (w1.alloc (.cells #[.int .i64 0, .int .i64 0, .int .i64 0, .int .i64 0, .int .i64 0, .int .i64 0, .int .i64 0] 25)) a1 nl c1 L ∧ (∀ x, a1 = some x → w.heap.size ≤ x.block) ∧ Below w.heap.size w (w1.alloc (.cells #[.int .i64 0, .int .i64 0, .int .i64 0, .int .i64 0, .int .i64 0, .int .i64 0, .int .i64 0] 25))) := ⟨g1.below (box_below _ _), n1, hb.alloc hb.size _⟩
  clear g1 n1 hb D
  go_wp2
  go_ret2
  exact ⟨a1, c1, rfl, R.out.1, R.out.2.1, R.out.2.2⟩

set_option maxHeartbeats 4000000 in
set_option maxRecDepth 100000 in
theorem back_yes_any (a : Option Addr) (n c : Nat) (L : List P7) (x : Int) (w : World) (h : PGood w a n c L) (hq : Que L) (hh : qHas L x = true) :
    Calls Try.prog 14 #[.slice a n c, .int .i64 x] w (PutEnd7 w (qBack L x) (qDropE L x)) := by
  have hl := h.len
  have h4 := hq.1
  have hq2 := (hq.drop x).2
  have D := drop_any7 a n c L x w h (by omega)
  rw [(drop_yes hh).2.2] at D
  rw [back_yes hh, (drop_yes hh).2.2]
  have hdl := drop_le L x
  obtain ⟨M, hM⟩ : ∃ M, qDrop L x = M := ⟨_, rfl⟩
  obtain ⟨p, hp⟩ : ∃ p, qDropP L x = p := ⟨_, rfl⟩
  rw [hM] at D hdl hq2 ⊢
  rw [hp] at D ⊢
  obtain ⟨p0, p1, p2, p3, p4, p5, p6⟩ := p
  obtain ⟨ml, hml⟩ : ∃ ml, M.length = ml := ⟨_, rfl⟩
  unfold DropEnd7 at D
  unfold PutEnd7
  simp only [hml] at D
  have K1 := fun u a1 c1 (g : PGood u a1 ml c1 M) => beh_any a1 ml c1 M (p0, p1, p2, p3, p4, p5, p6) u g.pays (by omega) hq2
  have K2 := fun u a1 c1 (g : PGood u a1 ml c1 M) => with_any a1 ml c1 (qBeh M (p0, p1, p2, p3, p4, p5, p6)) M (p0, p1, p2, p3, p4, p5, p6) u g (by omega) (by have := qBeh_le M (p0, p1, p2, p3, p4, p5, p6); omega)
  obtain ⟨k, hk⟩ : ∃ k, qBeh M (p0, p1, p2, p3, p4, p5, p6) = k := ⟨_, rfl⟩
  have hk2 : qBeh M (p0, p1, p2, p3, p4, p5, p6) = k := hk
  simp only [hk] at K1 K2
  rw [hk2]
  clear hh h hl h4 hq2 hM hp hml hdl hk hk2 hq
  go_enter Try.func14, Try.ntmps14
  go_wp2_with fail
  go_at_call 10
  refine D.mono ?_
  rintro e w1 ⟨a1, c1, rfl, g1, n1, hb⟩
  obtain ⟨w2, hw2⟩ : ∃ w2, w2 = w1.alloc (.cells #[.int .i64 p0, .int .i64 p1, .int .i64 p2, .int .i64 p3, .int .i64 p4, .int .i64 p5, .int .i64 p6] 25) := ⟨_, rfl⟩
  have B2 : Hid (Below w.heap.size w w2) := by rw [hw2]; exact hb.alloc hb.size _
  have X2 : Hid (At7 w2 w1.heap.size 0 (p0, p1, p2, p3, p4, p5, p6)) := by rw [hw2]; exact At7.new w1 (p0, p1, p2, p3, p4, p5, p6) _ _
  have G2 : Hid (PGood w2 a1 ml c1 M) := by rw [hw2]; exact g1.below (box_below _ _)
  have HW : Hid (w2 = _) := hw2
  clear g1 n1 hb D hw2
  go_wp2_with fail
  rw [← HW.out]
  clear HW
  refine region_owes (L := [Fact.is (.slice a1 ml c1),
    Fact.is (.slice a1 ml c1),
    Fact.is (.agg #[.int .i64 p0, .int .i64 p1, .int .i64 p2, .int .i64 p3, .int .i64 p4, .int .i64 p5, .int .i64 p6]),
    Fact.is (.int .i64 k),
    Fact.is (.agg #[.int .i64 p0, .int .i64 p1, .int .i64 p2, .int .i64 p3, .int .i64 p4, .int .i64 p5, .int .i64 p6]),
    Fact.pnew w.heap.size (qIns M k (p0, p1, p2, p3, p4, p5, p6)),
    Fact.pnew w.heap.size (qIns M k (p0, p1, p2, p3, p4, p5, p6)),
    Fact.is (.int .i64 0)])
    (T := [20, 21, 22, 23, 24, 25, 4, 5]) (by kernel_rfl) (by kernel_rfl) rfl ?owes ?_
  case owes =>
    refine .cons (owes_move (.tmp 6) (.inl rfl) fun q u lh => ⟨wants_free rfl, lh.old 6 rfl⟩) ?_
    refine .cons (owes_move (.tmp 6) (.inl rfl) fun q u lh => ⟨wants_free rfl, lh.old 6 rfl⟩) ?_
    refine .cons (owes_value fun q u lh => ⟨wants_free rfl, .agg #[.int .i64 p0, .int .i64 p1, .int .i64 p2, .int .i64 p3, .int .i64 p4, .int .i64 p5, .int .i64 p6], by have e7 : q.tmps.getD 7 undef = .pointer (some ⟨w1.heap.size, 0, none⟩) := lh.old 7 rfl; obtain ⟨z0, z1, z2, z3, z4, z5, z6⟩ := X2.out.below lh.below; simp [execOp, Act.eval, e7, z0, z1, z2, z3, z4, z5, z6, go_sem], rfl⟩) ?_
    refine .cons (owes_call 26 Try.func26 (by kernel_rfl) (by kernel_rfl) [.tmp 21, .tmp 22] #[23, 25] rfl fun q u lh => ⟨wants_free rfl, by have e21 : q.tmps.getD 21 undef = .slice a1 ml c1 := lh.dep 1 rfl; have e22 : q.tmps.getD 22 undef = .agg #[.int .i64 p0, .int .i64 p1, .int .i64 p2, .int .i64 p3, .int .i64 p4, .int .i64 p5, .int .i64 p6] := lh.dep 2 rfl; show Calls Try.prog 26 #[q.tmps.getD 21 undef, q.tmps.getD 22 undef] u _; rw [e21, e22]; exact int_fact (K1 u a1 c1 (G2.out.below lh.below))⟩) ?_
    refine .cons (owes_value fun q u lh => ⟨wants_free rfl, .agg #[.int .i64 p0, .int .i64 p1, .int .i64 p2, .int .i64 p3, .int .i64 p4, .int .i64 p5, .int .i64 p6], by have e7 : q.tmps.getD 7 undef = .pointer (some ⟨w1.heap.size, 0, none⟩) := lh.old 7 rfl; obtain ⟨z0, z1, z2, z3, z4, z5, z6⟩ := X2.out.below lh.below; simp [execOp, Act.eval, e7, z0, z1, z2, z3, z4, z5, z6, go_sem], rfl⟩) ?_
    refine .cons (owes_call 25 Try.func25 (by kernel_rfl) (by kernel_rfl) [.tmp 20, .tmp 23, .tmp 24] #[23, 3, 25] rfl fun q u lh => ⟨wants_free rfl, by have e20 : q.tmps.getD 20 undef = .slice a1 ml c1 := lh.dep 0 rfl; have e23 : q.tmps.getD 23 undef = .int .i64 k := lh.dep 3 rfl; have e24 : q.tmps.getD 24 undef = .agg #[.int .i64 p0, .int .i64 p1, .int .i64 p2, .int .i64 p3, .int .i64 p4, .int .i64 p5, .int .i64 p6] := lh.dep 4 rfl; show Calls Try.prog 25 #[q.tmps.getD 20 undef, q.tmps.getD 23 undef, q.tmps.getD 24 undef] u _; rw [e20, e23, e24]; exact pend_fact (Nat.le_trans B2.out.size lh.below.size) (K2 u a1 c1 (G2.out.below lh.below))⟩) ?_
    refine .cons (owes_move (.tmp 25) (.inr rfl) fun q u lh => ⟨wants_free rfl, lh.dep 5 rfl⟩) ?_
    refine .cons (owes_value fun q u lh => ⟨wants_free rfl, .int .i64 0, by simp [execOp, Act.eval, go_sem], rfl⟩) ?_
    exact .nil _
  intro q u hb hsz hdf hold hfact
  obtain ⟨v25, e25⟩ : ∃ v, q.tmps.getD 25 undef = v := ⟨_, rfl⟩
  have f25 : (Fact.pnew w.heap.size (qIns M k (p0, p1, p2, p3, p4, p5, p6))).1 u v25 := by rw [← e25]; exact hfact 5 (by decide)
  obtain ⟨a4, m4, e4, g4, n4⟩ : (Fact.pnew w.heap.size (qIns M k (p0, p1, p2, p3, p4, p5, p6))).1 u (q.tmps.getD 4 undef) := hfact 6 (by decide)
  obtain rfl := frame_puts hsz hdf [20, 21, 22, 23, 24, 25, 4, 5] hold [(20, Value.slice a1 ml c1), (21, Value.slice a1 ml c1), (22, Value.agg #[.int .i64 p0, .int .i64 p1, .int .i64 p2, .int .i64 p3, .int .i64 p4, .int .i64 p5, .int .i64 p6]), (23, Value.int .i64 k), (24, Value.agg #[.int .i64 p0, .int .i64 p1, .int .i64 p2, .int .i64 p3, .int .i64 p4, .int .i64 p5, .int .i64 p6]), (25, v25), (4, Value.slice a4 (qIns M k (p0, p1, p2, p3, p4, p5, p6)).length m4), (5, Value.int .i64 0)] ⟨hfact 0 (by decide), hfact 1 (by decide), hfact 2 (by decide), hfact 3 (by decide), hfact 4 (by decide), e25, e4, hfact 7 (by decide), trivial⟩ rfl
  clear hsz hdf hold hfact
  have B3 : Hid (Below w.heap.size w u) := B2.out.trans (hb.mono B2.out.size)
  clear hb K1 K2 X2 B2
  go_wp2
  simp only [puts, Act.put, List.setIfInBounds_toArray, List.set_cons_zero, List.set_cons_succ]
  go_ret2
  exact ⟨a4, m4, rfl, g4, n4, B3.out⟩

theorem back_any7 (a : Option Addr) (n c : Nat) (L : List P7) (x : Int) (w : World) (h : PGood w a n c L) (hq : Que L) :
    Calls Try.prog 14 #[.slice a n c, .int .i64 x] w (PutEnd7 w (qBack L x) (qDropE L x)) := by
  cases hh : qHas L x with
  | true => exact back_yes_any a n c L x w h hq hh
  | false => exact back_no_any a n c L x w h (by have := h.len; have := hq.1; omega) hh

set_option maxHeartbeats 4000000 in
theorem class_no_any (a : Option Addr) (n c : Nat) (L : List P7) (x cl : Int) (w : World) (h : PGood w a n c L) (hm : n ≤ 100000) (hh : qHas L x = false) :
    Calls Try.prog 16 #[.slice a n c, .int .i64 x, .int .i64 cl] w (PutEnd7 w (qClass L x cl) (qDropE L x)) := by
  have D := drop_any7 a n c L x w h hm
  rw [(drop_no hh).1, (drop_no hh).2.1, (drop_no hh).2.2, show p70 = (0, 0, 0, 0, 0, 0, 0) from rfl] at D
  rw [class_no hh, (drop_no hh).2.2]
  obtain ⟨nl, hnl⟩ : ∃ nl, L.length = nl := ⟨_, rfl⟩
  unfold DropEnd7 at D
  unfold PutEnd7
  simp only [hnl] at D ⊢
  clear hh h hm hnl
  go_enter Try.func16, Try.ntmps16
  go_wp2_with fail
  go_at_call 10
  refine D.mono ?_
  rintro e w1 ⟨a1, c1, rfl, g1, n1, hb⟩
  have R : Hid (PGood (w1.alloc (.cells #[.int .i64 0, .int .i64 0, .int .i64 0, .int .i64 0, .int .i64 0, .int .i64 0, .int .i64 0] 25)) a1 nl c1 L ∧ (∀ x, a1 = some x → w.heap.size ≤ x.block) ∧ Below w.heap.size w (w1.alloc (.cells #[.int .i64 0, .int .i64 0, .int .i64 0, .int .i64 0, .int .i64 0, .int .i64 0, .int .i64 0] 25))) := ⟨g1.below (box_below _ _), n1, hb.alloc hb.size _⟩
  clear g1 n1 hb D
  go_wp2
  go_ret2
  exact ⟨a1, c1, rfl, R.out.1, R.out.2.1, R.out.2.2⟩

set_option maxHeartbeats 4000000 in
set_option maxRecDepth 100000 in
theorem class_yes_any (a : Option Addr) (n c : Nat) (L : List P7) (x cl : Int) (w : World) (h : PGood w a n c L) (hq : Que L) (hh : qHas L x = true) :
    Calls Try.prog 16 #[.slice a n c, .int .i64 x, .int .i64 cl] w (PutEnd7 w (qClass L x cl) (qDropE L x)) := by
  have hl := h.len
  have h4 := hq.1
  have hq2 := (hq.drop x).2
  have D := drop_any7 a n c L x w h (by omega)
  rw [(drop_yes hh).2.2] at D
  rw [class_yes hh, (drop_yes hh).2.2]
  have hdl := drop_le L x
  obtain ⟨M, hM⟩ : ∃ M, qDrop L x = M := ⟨_, rfl⟩
  obtain ⟨p, hp⟩ : ∃ p, qDropP L x = p := ⟨_, rfl⟩
  rw [hM] at D hdl hq2 ⊢
  rw [hp] at D ⊢
  obtain ⟨p0, p1, p2, p3, p4, p5, p6⟩ := p
  obtain ⟨ml, hml⟩ : ∃ ml, M.length = ml := ⟨_, rfl⟩
  unfold DropEnd7 at D
  unfold PutEnd7
  simp only [hml] at D
  have K1 := fun u a1 c1 (g : PGood u a1 ml c1 M) => beh_any a1 ml c1 M (p0, p1, p2, p3, cl, p5, p6) u g.pays (by omega) hq2
  have K2 := fun u a1 c1 (g : PGood u a1 ml c1 M) => with_any a1 ml c1 (qBeh M (p0, p1, p2, p3, cl, p5, p6)) M (p0, p1, p2, p3, cl, p5, p6) u g (by omega) (by have := qBeh_le M (p0, p1, p2, p3, cl, p5, p6); omega)
  obtain ⟨k, hk⟩ : ∃ k, qBeh M (p0, p1, p2, p3, cl, p5, p6) = k := ⟨_, rfl⟩
  have hk2 : qBeh M (setC (p0, p1, p2, p3, p4, p5, p6) cl) = k := hk
  simp only [hk] at K1 K2
  rw [hk2]
  rw [show setC (p0, p1, p2, p3, p4, p5, p6) cl = (p0, p1, p2, p3, cl, p5, p6) from rfl]
  clear hh h hl h4 hq2 hM hp hml hdl hk hk2 hq
  go_enter Try.func16, Try.ntmps16
  go_wp2_with fail
  go_at_call 10
  refine D.mono ?_
  rintro e w1 ⟨a1, c1, rfl, g1, n1, hb⟩
  obtain ⟨w2, hw2⟩ : ∃ w2, w2 = w1.alloc (.cells #[.int .i64 p0, .int .i64 p1, .int .i64 p2, .int .i64 p3, .int .i64 cl, .int .i64 p5, .int .i64 p6] 25) := ⟨_, rfl⟩
  have B2 : Hid (Below w.heap.size w w2) := by rw [hw2]; exact hb.alloc hb.size _
  have X2 : Hid (At7 w2 w1.heap.size 0 (p0, p1, p2, p3, cl, p5, p6)) := by rw [hw2]; exact At7.new w1 (p0, p1, p2, p3, cl, p5, p6) _ _
  have G2 : Hid (PGood w2 a1 ml c1 M) := by rw [hw2]; exact g1.below (box_below _ _)
  have HW : Hid (w2 = _) := hw2
  clear g1 n1 hb D hw2
  go_wp2_with fail
  rw [← HW.out]
  clear HW
  refine region_owes (L := [Fact.is (.slice a1 ml c1),
    Fact.is (.slice a1 ml c1),
    Fact.is (.agg #[.int .i64 p0, .int .i64 p1, .int .i64 p2, .int .i64 p3, .int .i64 cl, .int .i64 p5, .int .i64 p6]),
    Fact.is (.int .i64 k),
    Fact.is (.agg #[.int .i64 p0, .int .i64 p1, .int .i64 p2, .int .i64 p3, .int .i64 cl, .int .i64 p5, .int .i64 p6]),
    Fact.pnew w.heap.size (qIns M k (p0, p1, p2, p3, cl, p5, p6)),
    Fact.pnew w.heap.size (qIns M k (p0, p1, p2, p3, cl, p5, p6)),
    Fact.is (.int .i64 0)])
    (T := [24, 25, 26, 27, 28, 29, 6, 7]) (by kernel_rfl) (by kernel_rfl) rfl ?owes ?_
  case owes =>
    refine .cons (owes_move (.tmp 8) (.inl rfl) fun q u lh => ⟨wants_free rfl, lh.old 8 rfl⟩) ?_
    refine .cons (owes_move (.tmp 8) (.inl rfl) fun q u lh => ⟨wants_free rfl, lh.old 8 rfl⟩) ?_
    refine .cons (owes_value fun q u lh => ⟨wants_free rfl, .agg #[.int .i64 p0, .int .i64 p1, .int .i64 p2, .int .i64 p3, .int .i64 cl, .int .i64 p5, .int .i64 p6], by have e9 : q.tmps.getD 9 undef = .pointer (some ⟨w1.heap.size, 0, none⟩) := lh.old 9 rfl; obtain ⟨z0, z1, z2, z3, z4, z5, z6⟩ := X2.out.below lh.below; simp [execOp, Act.eval, e9, z0, z1, z2, z3, z4, z5, z6, go_sem], rfl⟩) ?_
    refine .cons (owes_call 26 Try.func26 (by kernel_rfl) (by kernel_rfl) [.tmp 25, .tmp 26] #[23, 25] rfl fun q u lh => ⟨wants_free rfl, by have e25 : q.tmps.getD 25 undef = .slice a1 ml c1 := lh.dep 1 rfl; have e26 : q.tmps.getD 26 undef = .agg #[.int .i64 p0, .int .i64 p1, .int .i64 p2, .int .i64 p3, .int .i64 cl, .int .i64 p5, .int .i64 p6] := lh.dep 2 rfl; show Calls Try.prog 26 #[q.tmps.getD 25 undef, q.tmps.getD 26 undef] u _; rw [e25, e26]; exact int_fact (K1 u a1 c1 (G2.out.below lh.below))⟩) ?_
    refine .cons (owes_value fun q u lh => ⟨wants_free rfl, .agg #[.int .i64 p0, .int .i64 p1, .int .i64 p2, .int .i64 p3, .int .i64 cl, .int .i64 p5, .int .i64 p6], by have e9 : q.tmps.getD 9 undef = .pointer (some ⟨w1.heap.size, 0, none⟩) := lh.old 9 rfl; obtain ⟨z0, z1, z2, z3, z4, z5, z6⟩ := X2.out.below lh.below; simp [execOp, Act.eval, e9, z0, z1, z2, z3, z4, z5, z6, go_sem], rfl⟩) ?_
    refine .cons (owes_call 25 Try.func25 (by kernel_rfl) (by kernel_rfl) [.tmp 24, .tmp 27, .tmp 28] #[23, 3, 25] rfl fun q u lh => ⟨wants_free rfl, by have e24 : q.tmps.getD 24 undef = .slice a1 ml c1 := lh.dep 0 rfl; have e27 : q.tmps.getD 27 undef = .int .i64 k := lh.dep 3 rfl; have e28 : q.tmps.getD 28 undef = .agg #[.int .i64 p0, .int .i64 p1, .int .i64 p2, .int .i64 p3, .int .i64 cl, .int .i64 p5, .int .i64 p6] := lh.dep 4 rfl; show Calls Try.prog 25 #[q.tmps.getD 24 undef, q.tmps.getD 27 undef, q.tmps.getD 28 undef] u _; rw [e24, e27, e28]; exact pend_fact (Nat.le_trans B2.out.size lh.below.size) (K2 u a1 c1 (G2.out.below lh.below))⟩) ?_
    refine .cons (owes_move (.tmp 29) (.inr rfl) fun q u lh => ⟨wants_free rfl, lh.dep 5 rfl⟩) ?_
    refine .cons (owes_value fun q u lh => ⟨wants_free rfl, .int .i64 0, by simp [execOp, Act.eval, go_sem], rfl⟩) ?_
    exact .nil _
  intro q u hb hsz hdf hold hfact
  obtain ⟨v29, e29⟩ : ∃ v, q.tmps.getD 29 undef = v := ⟨_, rfl⟩
  have f29 : (Fact.pnew w.heap.size (qIns M k (p0, p1, p2, p3, cl, p5, p6))).1 u v29 := by rw [← e29]; exact hfact 5 (by decide)
  obtain ⟨a4, m4, e4, g4, n4⟩ : (Fact.pnew w.heap.size (qIns M k (p0, p1, p2, p3, cl, p5, p6))).1 u (q.tmps.getD 6 undef) := hfact 6 (by decide)
  obtain rfl := frame_puts hsz hdf [24, 25, 26, 27, 28, 29, 6, 7] hold [(24, Value.slice a1 ml c1), (25, Value.slice a1 ml c1), (26, Value.agg #[.int .i64 p0, .int .i64 p1, .int .i64 p2, .int .i64 p3, .int .i64 cl, .int .i64 p5, .int .i64 p6]), (27, Value.int .i64 k), (28, Value.agg #[.int .i64 p0, .int .i64 p1, .int .i64 p2, .int .i64 p3, .int .i64 cl, .int .i64 p5, .int .i64 p6]), (29, v29), (6, Value.slice a4 (qIns M k (p0, p1, p2, p3, cl, p5, p6)).length m4), (7, Value.int .i64 0)] ⟨hfact 0 (by decide), hfact 1 (by decide), hfact 2 (by decide), hfact 3 (by decide), hfact 4 (by decide), e29, e4, hfact 7 (by decide), trivial⟩ rfl
  clear hsz hdf hold hfact
  have B3 : Hid (Below w.heap.size w u) := B2.out.trans (hb.mono B2.out.size)
  clear hb K1 K2 X2 B2
  go_wp2
  simp only [puts, Act.put, List.setIfInBounds_toArray, List.set_cons_zero, List.set_cons_succ]
  go_ret2
  exact ⟨a4, m4, rfl, g4, n4, B3.out⟩

theorem class_any7 (a : Option Addr) (n c : Nat) (L : List P7) (x cl : Int) (w : World) (h : PGood w a n c L) (hq : Que L) :
    Calls Try.prog 16 #[.slice a n c, .int .i64 x, .int .i64 cl] w (PutEnd7 w (qClass L x cl) (qDropE L x)) := by
  cases hh : qHas L x with
  | true => exact class_yes_any a n c L x cl w h hq hh
  | false => exact class_no_any a n c L x cl w h (by have := h.len; have := hq.1; omega) hh

end Go.Proofs.Ytjibnbheegcnkaa
