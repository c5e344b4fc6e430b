/-
  The walk of MostTells.
-/
import Derived.Test.YtcdahjkngejkeaaKnown17
import Derived.Test.YtcdahjkngejkeaaMostRef
import Derived.Test.YtcdahjkngejkeaaLimTwo
namespace Go.Proofs.Ytcdahjkngejkeaa
open Go.RowKit
set_option linter.unusedVariables false
set_option linter.unusedSimpArgs false

set_option maxHeartbeats 8000000 in
set_option maxRecDepth 100000 in
theorem Walk.mostTells (x : BA) (b : Bks) (f t cl : Int) (w : World) (hk : Bk w x b) (wf1 : (Lit.int .i64 f).wf = true) (wf2 : (Lit.int .i64 t).wf = true) (wf3 : (Lit.int .i64 cl).wf = true) : Calls Try.prog 3 #[x.val, .int .i64 f, .int .i64 t, .int .i64 cl] w fun e w' => e = .returned (.bool true) ∧ Below w.heap.size w w' := by
  have HBK : Hid (Bk w x b) := hk
  have I := fun u (hu : Below w.heap.size w u) => refBooksIs_any x b u (hk.below hu)
  have MM : Hid (Good b → ∀ u, Below w.heap.size w u → Calls Try.prog 7 #[x.val, .int .i64 f, .int .i64 t, .int .i64 cl] u fun e w' => e = .returned (.int .i64 (mostV b f t cl)) ∧ Below u.heap.size u w') := fun g u hu => most_any x b f t cl u (HBK.out.below hu) g
  have RR : Hid (Good b → ∀ u, Below w.heap.size w u → Calls Try.prog 8 #[x.val, .int .i64 f, .int .i64 t, .int .i64 cl] u fun e w' => e = .returned (.int .i64 (mostV b f t cl)) ∧ Below u.heap.size u w') := fun g u hu => refMost_any x b f t cl u (HBK.out.below hu) g
  obtain ⟨aA, nA, cA, aB, nB, cB, aM, nM, cM, aP, nP, cP⟩ := x
  obtain ⟨w2, hw2⟩ : ∃ w2, w2 = w.alloc (.cells #[.slice aA nA cA, .slice aB nB cB, .slice aM nM cM, .slice aP nP cP] 26) := ⟨_, rfl⟩
  have B2 : Hid (Below w.heap.size w w2) := by rw [hw2]; exact box_below _ _
  have X2 : Hid (Box4 w2 w.heap.size ⟨aA, nA, cA, aB, nB, cB, aM, nM, cM, aP, nP, cP⟩) := by rw [hw2]; exact Box4.new w ⟨aA, nA, cA, aB, nB, cB, aM, nM, cM, aP, nP, cP⟩ _ _
  have I := I w2 B2.out
  obtain ⟨q, hq⟩ : ∃ q, booksB b = q := ⟨_, rfl⟩
  have HQ : Hid (booksB b = q) := hq
  rw [hq] at I
  generalize mostV b f t cl = V at MM RR
  obtain ⟨p0, p1, p2, p3⟩ := X2.out
  replace p0 : w2.cell? ⟨w.heap.size, 0, none⟩ = some (.slice aA nA cA) := p0
  replace p1 : w2.cell? ⟨w.heap.size, 1, none⟩ = some (.slice aB nB cB) := p1
  replace p2 : w2.cell? ⟨w.heap.size, 2, none⟩ = some (.slice aM nM cM) := p2
  replace p3 : w2.cell? ⟨w.heap.size, 3, none⟩ = some (.slice aP nP cP) := p3
  clear hq hk wf1 wf2 wf3
  go_enter Try.func3, Try.ntmps3
  go_upto_region 1 with fail
  rw [← hw2]
  clear hw2
  go_wp2_with fail
  go_at_call 6
  refine I.mono ?_
  rintro e w3 ⟨rfl, hb⟩
  have X3 : Hid (Box4 w3 w.heap.size ⟨aA, nA, cA, aB, nB, cB, aM, nM, cM, aP, nP, cP⟩) := X2.out.below hb
  have B3 : Hid (Below w.heap.size w w3) := B2.out.trans (hb.mono B2.out.size)
  clear hb I p0 p1 p2 p3 X2 B2
  cases q with
  | false =>
    go_wp2
    go_ret
    exact ⟨rfl, B3.out⟩
  | true =>
  have GB : Hid (Good b) := booksB_yes.1 HQ.out
  have MO : Hid (∀ u, Below w.heap.size w u → Calls Try.prog 7 #[.agg #[.slice aA nA cA, .slice aB nB cB, .slice aM nM cM, .slice aP nP cP], .int .i64 f, .int .i64 t, .int .i64 cl] u fun e w' => e = .returned (.int .i64 V) ∧ Below u.heap.size u w') := MM.out GB.out
  have RO : Hid (∀ u, Below w.heap.size w u → Calls Try.prog 8 #[.agg #[.slice aA nA cA, .slice aB nB cB, .slice aM nM cM, .slice aP nP cP], .int .i64 f, .int .i64 t, .int .i64 cl] u fun e w' => e = .returned (.int .i64 V) ∧ Below u.heap.size u w') := RR.out GB.out
  clear MM RR
  go_wp2_with fail
  refine region_owes (L := [Fact.is (.agg #[.slice aA nA cA, .slice aB nB cB, .slice aM nM cM, .slice aP nP cP]),
    Fact.is (.int .i64 f),
    Fact.is (.int .i64 t),
    Fact.is (.int .i64 cl),
    Fact.is (.int .i64 V),
    Fact.is (.agg #[.slice aA nA cA, .slice aB nB cB, .slice aM nM cM, .slice aP nP cP]),
    Fact.is (.int .i64 f),
    Fact.is (.int .i64 t),
    Fact.is (.int .i64 cl),
    Fact.is (.int .i64 V),
    Fact.is (.bool true),
    Fact.is (.bool true),
    Fact.is (.bool true),
    Fact.is (.bool true),
    Fact.is (.bool true)])
    (T := [12, 13, 14, 15, 16, 17, 18, 19, 20, 21, 22, 23, 24, 25, 8]) (by kernel_rfl) (by kernel_rfl) rfl ?owes ?_
  case owes =>
    refine .cons (owes_value fun q u lh => ⟨wants_free rfl, .agg #[.slice aA nA cA, .slice aB nB cB, .slice aM nM cM, .slice aP nP cP], by have e4 : q.tmps.getD 4 undef = .pointer (some ⟨w.heap.size, 0, none⟩) := lh.old 4 rfl; obtain ⟨p0, p1, p2, p3⟩ := X3.out.below lh.below; simp [execOp, Act.eval, e4, p0, p1, p2, p3, go_sem], rfl⟩) ?_
    refine .cons (owes_move (.tmp 1) (.inl rfl) fun q u lh => ⟨wants_free rfl, lh.old 1 rfl⟩) ?_
    refine .cons (owes_move (.tmp 2) (.inl rfl) fun q u lh => ⟨wants_free rfl, lh.old 2 rfl⟩) ?_
    refine .cons (owes_move (.tmp 3) (.inl rfl) fun q u lh => ⟨wants_free rfl, lh.old 3 rfl⟩) ?_
    refine .cons (owes_call 7 Try.func7 (by kernel_rfl) (by kernel_rfl) [.tmp 12, .tmp 13, .tmp 14, .tmp 15] #[26, 3, 3, 3] rfl fun q u lh => ⟨wants_free rfl, by have e12 : q.tmps.getD 12 undef = .agg #[.slice aA nA cA, .slice aB nB cB, .slice aM nM cM, .slice aP nP cP] := lh.dep 0 rfl; have e13 : q.tmps.getD 13 undef = .int .i64 f := lh.dep 1 rfl; have e14 : q.tmps.getD 14 undef = .int .i64 t := lh.dep 2 rfl; have e15 : q.tmps.getD 15 undef = .int .i64 cl := lh.dep 3 rfl; show Calls Try.prog 7 #[q.tmps.getD 12 undef, q.tmps.getD 13 undef, q.tmps.getD 14 undef, q.tmps.getD 15 undef] u _; rw [e12, e13, e14, e15]; exact int_fact (MO.out u (B3.out.trans (lh.below.mono B3.out.size)))⟩) ?_
    refine .cons (owes_value fun q u lh => ⟨wants_free rfl, .agg #[.slice aA nA cA, .slice aB nB cB, .slice aM nM cM, .slice aP nP cP], by have e4 : q.tmps.getD 4 undef = .pointer (some ⟨w.heap.size, 0, none⟩) := lh.old 4 rfl; obtain ⟨p0, p1, p2, p3⟩ := X3.out.below lh.below; simp [execOp, Act.eval, e4, p0, p1, p2, p3, go_sem], rfl⟩) ?_
    refine .cons (owes_move (.tmp 1) (.inl rfl) fun q u lh => ⟨wants_free rfl, lh.old 1 rfl⟩) ?_
    refine .cons (owes_move (.tmp 2) (.inl rfl) fun q u lh => ⟨wants_free rfl, lh.old 2 rfl⟩) ?_
    refine .cons (owes_move (.tmp 3) (.inl rfl) fun q u lh => ⟨wants_free rfl, lh.old 3 rfl⟩) ?_
    refine .cons (owes_call 8 Try.func8 (by kernel_rfl) (by kernel_rfl) [.tmp 17, .tmp 18, .tmp 19, .tmp 20] #[26, 3, 3, 3] rfl fun q u lh => ⟨wants_free rfl, by have e17 : q.tmps.getD 17 undef = .agg #[.slice aA nA cA, .slice aB nB cB, .slice aM nM cM, .slice aP nP cP] := lh.dep 5 rfl; have e18 : q.tmps.getD 18 undef = .int .i64 f := lh.dep 6 rfl; have e19 : q.tmps.getD 19 undef = .int .i64 t := lh.dep 7 rfl; have e20 : q.tmps.getD 20 undef = .int .i64 cl := lh.dep 8 rfl; show Calls Try.prog 8 #[q.tmps.getD 17 undef, q.tmps.getD 18 undef, q.tmps.getD 19 undef, q.tmps.getD 20 undef] u _; rw [e17, e18, e19, e20]; exact int_fact (RO.out u (B3.out.trans (lh.below.mono B3.out.size)))⟩) ?_
    refine .cons (owes_value fun q u lh => ⟨wants_free rfl, .bool true, by have e16 : q.tmps.getD 16 undef = .int .i64 V := lh.dep 4 rfl; have e21 : q.tmps.getD 21 undef = .int .i64 V := lh.dep 9 rfl; simp [execOp, Act.eval, e16, e21, go_sem], rfl⟩) ?_
    refine .cons (owes_move (.tmp 22) (.inl rfl) fun q u lh => ⟨wants_free rfl, lh.dep 10 rfl⟩) ?_
    refine .cons (owes_call 9 Try.func9 (by kernel_rfl) (by kernel_rfl) [] #[] rfl fun q u lh => ⟨lh.wants1 11 true rfl rfl rfl, by show Calls Try.prog 9 #[] u _; exact bool_fact (known17 u)⟩) ?_
    refine .cons (owes_pick (.tmp 23) (.tmp 24) (.const (.bool false)) rfl fun q u lh => ⟨wants_free rfl, true, lh.dep 11 rfl, lh.dep 12 rfl⟩) ?_
    refine .cons (owes_move (.tmp 25) (.inr rfl) fun q u lh => ⟨wants_free rfl, lh.dep 13 rfl⟩) ?_
    exact .nil _
  intro q u hb hsz hdf hold hfact
  have B4 : Hid (Below w.heap.size w u) := B3.out.trans (hb.mono B3.out.size)
  obtain ⟨u4, rfl⟩ : ∃ z, z = u := ⟨u, rfl⟩
  obtain rfl := frame_puts hsz hdf [12, 13, 14, 15, 16, 17, 18, 19, 20, 21, 22, 23, 24, 25, 8] hold [(12, Value.agg #[.slice aA nA cA, .slice aB nB cB, .slice aM nM cM, .slice aP nP cP]), (13, Value.int .i64 f), (14, Value.int .i64 t), (15, Value.int .i64 cl), (16, Value.int .i64 V), (17, Value.agg #[.slice aA nA cA, .slice aB nB cB, .slice aM nM cM, .slice aP nP cP]), (18, Value.int .i64 f), (19, Value.int .i64 t), (20, Value.int .i64 cl), (21, Value.int .i64 V), (22, Value.bool true), (23, Value.bool true), (24, Value.bool true), (25, Value.bool true), (8, Value.bool true)] ⟨hfact 0 (by decide), hfact 1 (by decide), hfact 2 (by decide), hfact 3 (by decide), hfact 4 (by decide), hfact 5 (by decide), hfact 6 (by decide), hfact 7 (by decide), hfact 8 (by decide), hfact 9 (by decide), hfact 10 (by decide), hfact 11 (by decide), hfact 12 (by decide), hfact 13 (by decide), hfact 14 (by decide), trivial⟩ rfl
  clear hsz hdf hold hfact
  clear hb X3 B3
  simp only [puts, Act.put, List.setIfInBounds_toArray, List.set_cons_zero, List.set_cons_succ]
  go_wp2
  go_ret
  exact ⟨rfl, B4.out⟩

end Go.Proofs.Ytcdahjkngejkeaa
