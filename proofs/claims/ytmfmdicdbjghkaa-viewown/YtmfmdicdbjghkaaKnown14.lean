/-
  girolaw14.known.
-/
import Derived.Test.YtmfmdicdbjghkaaViewMay
import Derived.Test.YtmfmdicdbjghkaaViewHeads
import Derived.Test.YtmfmdicdbjghkaaSameFacts
namespace Go.Proofs.Ytmfmdicdbjghkaa
open Go.RowKit
set_option linter.unusedVariables false
set_option linter.unusedSimpArgs false

theorem k14_may1 (a : Option Addr) (c : Nat) (u : World) (g : PGood u a 2 c [(1, 0, 0, 0, 2, 0, 9), (2, 0, 0, 0, 3, 0, 9)]) : Calls Try.prog 13 #[.slice a 2 c, .int .i64 1] u (PEnd u [(1, 0, 0, 0, 2, 0, 9)]) := by
  have := viewMay_any a 2 c [(1, 0, 0, 0, 2, 0, 9), (2, 0, 0, 0, 3, 0, 9)] 1 u g (by omega) (fun p hp => by simp at hp; rcases hp with rfl | rfl <;> rfl)
  rw [show vMay [(1, 0, 0, 0, 2, 0, 9), (2, 0, 0, 0, 3, 0, 9)] 1 = [(1, 0, 0, 0, 2, 0, 9)] from rfl] at this
  exact this
theorem k14_may2 (a : Option Addr) (c : Nat) (u : World) (g : PGood u a 1 c [(2, 0, 0, 0, 3, 0, 9)]) : Calls Try.prog 13 #[.slice a 1 c, .int .i64 1] u (PEnd u [(2, 0, 0, 0, 3, 0, 9)]) := by
  have := viewMay_any a 1 c [(2, 0, 0, 0, 3, 0, 9)] 1 u g (by omega) (fun p hp => by simp at hp; rcases hp with rfl; rfl)
  rw [show vMay [(2, 0, 0, 0, 3, 0, 9)] 1 = [(2, 0, 0, 0, 3, 0, 9)] from rfl] at this
  exact this
theorem k14_heads (a am : Option Addr) (c cm : Nat) (u : World) (g : PGood u a 2 c [(1, 0, 0, 0, 2, 0, 9), (2, 0, 0, 0, 3, 0, 9)]) (s : Sl .i64 u am 1 [1]) : Calls Try.prog 15 #[.slice a 2 c, .slice am 1 cm] u (PEnd u [(1, 0, 0, 0, 2, 0, 9)]) := by
  have := viewHeads_any a am 2 c 1 cm [(1, 0, 0, 0, 2, 0, 9), (2, 0, 0, 0, 3, 0, 9)] [1] u g s (by omega) (by omega)
  rw [show vHeads [(1, 0, 0, 0, 2, 0, 9), (2, 0, 0, 0, 3, 0, 9)] [1] = [(1, 0, 0, 0, 2, 0, 9)] from rfl] at this
  exact this

set_option maxHeartbeats 4000000 in
set_option maxRecDepth 100000 in
theorem known14 (w : World) : Calls Try.prog 17 #[] w fun e w' => e = .returned (.bool true) ∧ Below w.heap.size w w' := by
  obtain ⟨w2, hw2⟩ : ∃ w2, w2 = (w.alloc (.cells #[.int .i64 1, .int .i64 0, .int .i64 0, .int .i64 0, .int .i64 2, .int .i64 0, .int .i64 9] 34)).alloc (.cells #[.int .i64 2, .int .i64 0, .int .i64 0, .int .i64 0, .int .i64 3, .int .i64 0, .int .i64 9] 34) := ⟨_, rfl⟩
  have B2 : Hid (Below w.heap.size w w2) := by rw [hw2]; exact (box_below _ _).alloc (box_below _ _).size _
  have X1 : Hid (At7 w2 w.heap.size 0 (1, 0, 0, 0, 2, 0, 9)) := by rw [hw2]; exact (At7.new w (1, 0, 0, 0, 2, 0, 9) _ _).below (box_below _ _)
  have X2 : Hid (At7 w2 (w.heap.size + 1) 0 (2, 0, 0, 0, 3, 0, 9)) := by
    rw [hw2]
    have := At7.new (w.alloc (.cells #[.int .i64 1, .int .i64 0, .int .i64 0, .int .i64 0, .int .i64 2, .int .i64 0, .int .i64 9] 34)) (2, 0, 0, 0, 3, 0, 9) 34 (0, 0)
    rw [size_alloc] at this
    exact this
  have HW : Hid (w2 = _) := hw2
  clear hw2
  go_enter Try.func17, Try.ntmps17
  go_wp2_with fail
  rw [← HW.out]
  clear HW
  refine region_owes (L := [Fact.is (.agg #[.int .i64 1, .int .i64 0, .int .i64 0, .int .i64 0, .int .i64 2, .int .i64 0, .int .i64 9]),
    Fact.is (.agg #[.int .i64 2, .int .i64 0, .int .i64 0, .int .i64 0, .int .i64 3, .int .i64 0, .int .i64 9]),
    Fact.pnew w.heap.size [(1, 0, 0, 0, 2, 0, 9), (2, 0, 0, 0, 3, 0, 9)],
    Fact.pnew w.heap.size [(1, 0, 0, 0, 2, 0, 9)],
    Fact.is (.agg #[.int .i64 1, .int .i64 0, .int .i64 0, .int .i64 0, .int .i64 2, .int .i64 0, .int .i64 9]),
    Fact.pnew w.heap.size [(1, 0, 0, 0, 2, 0, 9)],
    Fact.is (.bool true),
    Fact.is (.bool true),
    Fact.is (.agg #[.int .i64 2, .int .i64 0, .int .i64 0, .int .i64 0, .int .i64 3, .int .i64 0, .int .i64 9]),
    Fact.pnew w.heap.size [(2, 0, 0, 0, 3, 0, 9)],
    Fact.pnew w.heap.size [(2, 0, 0, 0, 3, 0, 9)],
    Fact.is (.agg #[.int .i64 2, .int .i64 0, .int .i64 0, .int .i64 0, .int .i64 3, .int .i64 0, .int .i64 9]),
    Fact.pnew w.heap.size [(2, 0, 0, 0, 3, 0, 9)],
    Fact.is (.bool true),
    Fact.is (.bool true),
    Fact.is (.bool true),
    Fact.is (.agg #[.int .i64 1, .int .i64 0, .int .i64 0, .int .i64 0, .int .i64 2, .int .i64 0, .int .i64 9]),
    Fact.is (.agg #[.int .i64 2, .int .i64 0, .int .i64 0, .int .i64 0, .int .i64 3, .int .i64 0, .int .i64 9]),
    Fact.pnew w.heap.size [(1, 0, 0, 0, 2, 0, 9), (2, 0, 0, 0, 3, 0, 9)],
    Fact.full .i64 1 [1],
    Fact.pnew w.heap.size [(1, 0, 0, 0, 2, 0, 9)],
    Fact.is (.int .i64 1),
    Fact.is (.bool true),
    Fact.is (.bool true),
    Fact.is (.bool true)])
    (T := [5, 6, 7, 8, 9, 10, 11, 12, 13, 14, 15, 16, 17, 18, 19, 20, 21, 22, 23, 24, 25, 26, 27, 28, 0]) (by kernel_rfl) (by kernel_rfl) rfl ?owes ?_
  case owes =>
    refine .cons (owes_value fun q u lh => ⟨wants_free rfl, .agg #[.int .i64 1, .int .i64 0, .int .i64 0, .int .i64 0, .int .i64 2, .int .i64 0, .int .i64 9], by have e1 : q.tmps.getD 1 undef = .pointer (some ⟨w.heap.size, 0, none⟩) := lh.old 1 rfl; obtain ⟨z0, z1, z2, z3, z4, z5, z6⟩ := X1.out.below lh.below; simp [execOp, Act.eval, e1, z0, z1, z2, z3, z4, z5, z6, go_sem], rfl⟩) ?_
    refine .cons (owes_value fun q u lh => ⟨wants_free rfl, .agg #[.int .i64 2, .int .i64 0, .int .i64 0, .int .i64 0, .int .i64 3, .int .i64 0, .int .i64 9], by have e2 : q.tmps.getD 2 undef = .pointer (some ⟨w.heap.size + 1, 0, none⟩) := lh.old 2 rfl; obtain ⟨z0, z1, z2, z3, z4, z5, z6⟩ := X2.out.below lh.below; simp [execOp, Act.eval, e2, z0, z1, z2, z3, z4, z5, z6, go_sem], rfl⟩) ?_
    refine .cons (owes_make fun q u lh => ⟨wants_free rfl, .slice (some ⟨u.heap.size, 0, none⟩) 2 2, u.alloc (.cells #[.int .i64 1, .int .i64 0, .int .i64 0, .int .i64 0, .int .i64 2, .int .i64 0, .int .i64 9, .int .i64 2, .int .i64 0, .int .i64 0, .int .i64 0, .int .i64 3, .int .i64 0, .int .i64 9] 34), by have e5 : q.tmps[5]?.getD undef = .agg #[.int .i64 1, .int .i64 0, .int .i64 0, .int .i64 0, .int .i64 2, .int .i64 0, .int .i64 9] := (Array.getD_eq_getD_getElem? ..).symm.trans (lh.dep 0 rfl); have e6 : q.tmps[6]?.getD undef = .agg #[.int .i64 2, .int .i64 0, .int .i64 0, .int .i64 0, .int .i64 3, .int .i64 0, .int .i64 9] := (Array.getD_eq_getD_getElem? ..).symm.trans (lh.dep 1 rfl); simp [execOp, Act.eval, e5, e6, go_sem], box_below _ _, ⟨_, _, rfl, PGood.lit2 u (1, 0, 0, 0, 2, 0, 9) (2, 0, 0, 0, 3, 0, 9), fun x hx => by cases hx; exact Nat.le_trans B2.out.size lh.below.size⟩⟩) ?_
    refine .cons (owes_call 13 Try.func13 (by kernel_rfl) (by kernel_rfl) [.tmp 7, .const (.int .i64 1)] #[22, 2] rfl fun q u lh => ⟨wants_free rfl, by obtain ⟨aa, cc, e7, gg, -⟩ := lh.dep 2 rfl; have e7 : q.tmps.getD 7 undef = .slice aa 2 cc := e7; show Calls Try.prog 13 #[q.tmps.getD 7 undef, .int .i64 1] u _; rw [e7]; exact pend_fact (Nat.le_trans B2.out.size lh.below.size) (k14_may1 aa cc u gg)⟩) ?_
    refine .cons (owes_value fun q u lh => ⟨wants_free rfl, .agg #[.int .i64 1, .int .i64 0, .int .i64 0, .int .i64 0, .int .i64 2, .int .i64 0, .int .i64 9], by have e1 : q.tmps.getD 1 undef = .pointer (some ⟨w.heap.size, 0, none⟩) := lh.old 1 rfl; obtain ⟨z0, z1, z2, z3, z4, z5, z6⟩ := X1.out.below lh.below; simp [execOp, Act.eval, e1, z0, z1, z2, z3, z4, z5, z6, go_sem], rfl⟩) ?_
    refine .cons (owes_make fun q u lh => ⟨wants_free rfl, .slice (some ⟨u.heap.size, 0, none⟩) 1 1, u.alloc (.cells #[.int .i64 1, .int .i64 0, .int .i64 0, .int .i64 0, .int .i64 2, .int .i64 0, .int .i64 9] 34), by have e9 : q.tmps[9]?.getD undef = .agg #[.int .i64 1, .int .i64 0, .int .i64 0, .int .i64 0, .int .i64 2, .int .i64 0, .int .i64 9] := (Array.getD_eq_getD_getElem? ..).symm.trans (lh.dep 4 rfl); simp [execOp, Act.eval, e9, go_sem], box_below _ _, ⟨_, _, rfl, PGood.lit1 u (1, 0, 0, 0, 2, 0, 9), fun x hx => by cases hx; exact Nat.le_trans B2.out.size lh.below.size⟩⟩) ?_
    refine .cons (owes_call 8 Try.func8 (by kernel_rfl) (by kernel_rfl) [.tmp 8, .tmp 10] #[22, 22] rfl fun q u lh => ⟨wants_free rfl, by obtain ⟨aa, ca, ea, ga, -⟩ := lh.dep 3 rfl; obtain ⟨ab, cb, eb, gb, -⟩ := lh.dep 5 rfl; have ea : q.tmps.getD 8 undef = .slice aa 1 ca := ea; have eb : q.tmps.getD 10 undef = .slice ab 1 cb := eb; show Calls Try.prog 8 #[q.tmps.getD 8 undef, q.tmps.getD 10 undef] u _; rw [ea, eb]; exact bool_fact (same_true aa ab 1 1 ca cb _ u ga gb)⟩) ?_
    refine .cons (owes_move (.tmp 11) (.inl rfl) fun q u lh => ⟨wants_free rfl, lh.dep 6 rfl⟩) ?_
    refine .cons (owes_value fun q u lh => ⟨lh.wants1 7 true rfl rfl rfl, .agg #[.int .i64 2, .int .i64 0, .int .i64 0, .int .i64 0, .int .i64 3, .int .i64 0, .int .i64 9], by have e2 : q.tmps.getD 2 undef = .pointer (some ⟨w.heap.size + 1, 0, none⟩) := lh.old 2 rfl; obtain ⟨z0, z1, z2, z3, z4, z5, z6⟩ := X2.out.below lh.below; simp [execOp, Act.eval, e2, z0, z1, z2, z3, z4, z5, z6, go_sem], rfl⟩) ?_
    refine .cons (owes_make fun q u lh => ⟨lh.wants1 7 true rfl rfl rfl, .slice (some ⟨u.heap.size, 0, none⟩) 1 1, u.alloc (.cells #[.int .i64 2, .int .i64 0, .int .i64 0, .int .i64 0, .int .i64 3, .int .i64 0, .int .i64 9] 34), by have e13 : q.tmps[13]?.getD undef = .agg #[.int .i64 2, .int .i64 0, .int .i64 0, .int .i64 0, .int .i64 3, .int .i64 0, .int .i64 9] := (Array.getD_eq_getD_getElem? ..).symm.trans (lh.dep 8 rfl); simp [execOp, Act.eval, e13, go_sem], box_below _ _, ⟨_, _, rfl, PGood.lit1 u (2, 0, 0, 0, 3, 0, 9), fun x hx => by cases hx; exact Nat.le_trans B2.out.size lh.below.size⟩⟩) ?_
    refine .cons (owes_call 13 Try.func13 (by kernel_rfl) (by kernel_rfl) [.tmp 14, .const (.int .i64 1)] #[22, 2] rfl fun q u lh => ⟨lh.wants1 7 true rfl rfl rfl, by obtain ⟨aa, cc, e14, gg, -⟩ := lh.dep 9 rfl; have e14 : q.tmps.getD 14 undef = .slice aa 1 cc := e14; show Calls Try.prog 13 #[q.tmps.getD 14 undef, .int .i64 1] u _; rw [e14]; exact pend_fact (Nat.le_trans B2.out.size lh.below.size) (k14_may2 aa cc u gg)⟩) ?_
    refine .cons (owes_value fun q u lh => ⟨lh.wants1 7 true rfl rfl rfl, .agg #[.int .i64 2, .int .i64 0, .int .i64 0, .int .i64 0, .int .i64 3, .int .i64 0, .int .i64 9], by have e2 : q.tmps.getD 2 undef = .pointer (some ⟨w.heap.size + 1, 0, none⟩) := lh.old 2 rfl; obtain ⟨z0, z1, z2, z3, z4, z5, z6⟩ := X2.out.below lh.below; simp [execOp, Act.eval, e2, z0, z1, z2, z3, z4, z5, z6, go_sem], rfl⟩) ?_
    refine .cons (owes_make fun q u lh => ⟨lh.wants1 7 true rfl rfl rfl, .slice (some ⟨u.heap.size, 0, none⟩) 1 1, u.alloc (.cells #[.int .i64 2, .int .i64 0, .int .i64 0, .int .i64 0, .int .i64 3, .int .i64 0, .int .i64 9] 34), by have e16 : q.tmps[16]?.getD undef = .agg #[.int .i64 2, .int .i64 0, .int .i64 0, .int .i64 0, .int .i64 3, .int .i64 0, .int .i64 9] := (Array.getD_eq_getD_getElem? ..).symm.trans (lh.dep 11 rfl); simp [execOp, Act.eval, e16, go_sem], box_below _ _, ⟨_, _, rfl, PGood.lit1 u (2, 0, 0, 0, 3, 0, 9), fun x hx => by cases hx; exact Nat.le_trans B2.out.size lh.below.size⟩⟩) ?_
    refine .cons (owes_call 8 Try.func8 (by kernel_rfl) (by kernel_rfl) [.tmp 15, .tmp 17] #[22, 22] rfl fun q u lh => ⟨lh.wants1 7 true rfl rfl rfl, by obtain ⟨aa, ca, ea, ga, -⟩ := lh.dep 10 rfl; obtain ⟨ab, cb, eb, gb, -⟩ := lh.dep 12 rfl; have ea : q.tmps.getD 15 undef = .slice aa 1 ca := ea; have eb : q.tmps.getD 17 undef = .slice ab 1 cb := eb; show Calls Try.prog 8 #[q.tmps.getD 15 undef, q.tmps.getD 17 undef] u _; rw [ea, eb]; exact bool_fact (same_true aa ab 1 1 ca cb _ u ga gb)⟩) ?_
    refine .cons (owes_pick (.tmp 12) (.tmp 18) (.const (.bool false)) rfl fun q u lh => ⟨wants_free rfl, true, lh.dep 7 rfl, lh.dep 13 rfl⟩) ?_
    refine .cons (owes_move (.tmp 19) (.inl rfl) fun q u lh => ⟨wants_free rfl, lh.dep 14 rfl⟩) ?_
    refine .cons (owes_value fun q u lh => ⟨lh.wants1 15 true rfl rfl rfl, .agg #[.int .i64 1, .int .i64 0, .int .i64 0, .int .i64 0, .int .i64 2, .int .i64 0, .int .i64 9], by have e1 : q.tmps.getD 1 undef = .pointer (some ⟨w.heap.size, 0, none⟩) := lh.old 1 rfl; obtain ⟨z0, z1, z2, z3, z4, z5, z6⟩ := X1.out.below lh.below; simp [execOp, Act.eval, e1, z0, z1, z2, z3, z4, z5, z6, go_sem], rfl⟩) ?_
    refine .cons (owes_value fun q u lh => ⟨lh.wants1 15 true rfl rfl rfl, .agg #[.int .i64 2, .int .i64 0, .int .i64 0, .int .i64 0, .int .i64 3, .int .i64 0, .int .i64 9], by have e2 : q.tmps.getD 2 undef = .pointer (some ⟨w.heap.size + 1, 0, none⟩) := lh.old 2 rfl; obtain ⟨z0, z1, z2, z3, z4, z5, z6⟩ := X2.out.below lh.below; simp [execOp, Act.eval, e2, z0, z1, z2, z3, z4, z5, z6, go_sem], rfl⟩) ?_
    refine .cons (owes_make fun q u lh => ⟨lh.wants1 15 true rfl rfl rfl, .slice (some ⟨u.heap.size, 0, none⟩) 2 2, u.alloc (.cells #[.int .i64 1, .int .i64 0, .int .i64 0, .int .i64 0, .int .i64 2, .int .i64 0, .int .i64 9, .int .i64 2, .int .i64 0, .int .i64 0, .int .i64 0, .int .i64 3, .int .i64 0, .int .i64 9] 34), by have e21 : q.tmps[21]?.getD undef = .agg #[.int .i64 1, .int .i64 0, .int .i64 0, .int .i64 0, .int .i64 2, .int .i64 0, .int .i64 9] := (Array.getD_eq_getD_getElem? ..).symm.trans (lh.dep 16 rfl); have e22 : q.tmps[22]?.getD undef = .agg #[.int .i64 2, .int .i64 0, .int .i64 0, .int .i64 0, .int .i64 3, .int .i64 0, .int .i64 9] := (Array.getD_eq_getD_getElem? ..).symm.trans (lh.dep 17 rfl); simp [execOp, Act.eval, e21, e22, go_sem], box_below _ _, ⟨_, _, rfl, PGood.lit2 u (1, 0, 0, 0, 2, 0, 9) (2, 0, 0, 0, 3, 0, 9), fun x hx => by cases hx; exact Nat.le_trans B2.out.size lh.below.size⟩⟩) ?_
    refine .cons (owes_make fun q u lh => ⟨lh.wants1 15 true rfl rfl rfl, .slice (some ⟨u.heap.size, 0, none⟩) 1 1, u.alloc (.cells #[.int .i64 1] 3), by simp [execOp, Act.eval, go_sem], box_below _ _, ⟨_, rfl, Sl.new .i64 u 3 (0, 0) [1] (by intro n hn; simp at hn; subst hn; rfl)⟩⟩) ?_
    refine .cons (owes_call 15 Try.func15 (by kernel_rfl) (by kernel_rfl) [.tmp 23, .tmp 24] #[22, 23] rfl fun q u lh => ⟨lh.wants1 15 true rfl rfl rfl, by obtain ⟨aa, cc, ea, ga, -⟩ := lh.dep 18 rfl; obtain ⟨bb, eb, sb⟩ := lh.dep 19 rfl; have ea : q.tmps.getD 23 undef = .slice aa 2 cc := ea; have eb : q.tmps.getD 24 undef = .slice (some ⟨bb, 0, none⟩) 1 1 := eb; show Calls Try.prog 15 #[q.tmps.getD 23 undef, q.tmps.getD 24 undef] u _; rw [ea, eb]; exact pend_fact (Nat.le_trans B2.out.size lh.below.size) (k14_heads aa _ cc 1 u ga sb)⟩) ?_
    refine .cons (owes_value fun q u lh => ⟨lh.wants1 15 true rfl rfl rfl, .int .i64 1, by obtain ⟨aa, cc, e25, -⟩ := lh.dep 20 rfl; have e25 : q.tmps.getD 25 undef = .slice aa 1 cc := e25; simp [execOp, Act.eval, e25, go_sem], rfl⟩) ?_
    refine .cons (owes_eql 3 3 (.tmp 26) (.const (.int .i64 1)) rfl rfl fun q u lh => ⟨lh.wants1 15 true rfl rfl rfl, .int .i64 1, lh.dep 21 rfl, rfl, eq_num⟩) ?_
    refine .cons (owes_pick (.tmp 20) (.tmp 27) (.const (.bool false)) rfl fun q u lh => ⟨wants_free rfl, true, lh.dep 15 rfl, lh.dep 22 rfl⟩) ?_
    refine .cons (owes_move (.tmp 28) (.inr rfl) fun q u lh => ⟨wants_free rfl, lh.dep 23 rfl⟩) ?_
    exact .nil _
  intro q u hb hsz hdf hold hfact
  obtain ⟨v7, e7⟩ : ∃ v, q.tmps.getD 7 undef = v := ⟨_, rfl⟩
  have f7 : (Fact.pnew w.heap.size [(1, 0, 0, 0, 2, 0, 9), (2, 0, 0, 0, 3, 0, 9)]).1 u v7 := by rw [← e7]; exact hfact 2 (by decide)
  obtain ⟨v8, e8⟩ : ∃ v, q.tmps.getD 8 undef = v := ⟨_, rfl⟩
  have f8 : (Fact.pnew w.heap.size [(1, 0, 0, 0, 2, 0, 9)]).1 u v8 := by rw [← e8]; exact hfact 3 (by decide)
  obtain ⟨v10, e10⟩ : ∃ v, q.tmps.getD 10 undef = v := ⟨_, rfl⟩
  have f10 : (Fact.pnew w.heap.size [(1, 0, 0, 0, 2, 0, 9)]).1 u v10 := by rw [← e10]; exact hfact 5 (by decide)
  obtain ⟨v14, e14⟩ : ∃ v, q.tmps.getD 14 undef = v := ⟨_, rfl⟩
  have f14 : (Fact.pnew w.heap.size [(2, 0, 0, 0, 3, 0, 9)]).1 u v14 := by rw [← e14]; exact hfact 9 (by decide)
  obtain ⟨v15, e15⟩ : ∃ v, q.tmps.getD 15 undef = v := ⟨_, rfl⟩
  have f15 : (Fact.pnew w.heap.size [(2, 0, 0, 0, 3, 0, 9)]).1 u v15 := by rw [← e15]; exact hfact 10 (by decide)
  obtain ⟨v17, e17⟩ : ∃ v, q.tmps.getD 17 undef = v := ⟨_, rfl⟩
  have f17 : (Fact.pnew w.heap.size [(2, 0, 0, 0, 3, 0, 9)]).1 u v17 := by rw [← e17]; exact hfact 12 (by decide)
  obtain ⟨v23, e23⟩ : ∃ v, q.tmps.getD 23 undef = v := ⟨_, rfl⟩
  have f23 : (Fact.pnew w.heap.size [(1, 0, 0, 0, 2, 0, 9), (2, 0, 0, 0, 3, 0, 9)]).1 u v23 := by rw [← e23]; exact hfact 18 (by decide)
  obtain ⟨v24, e24⟩ : ∃ v, q.tmps.getD 24 undef = v := ⟨_, rfl⟩
  have f24 : (Fact.full .i64 1 [1]).1 u v24 := by rw [← e24]; exact hfact 19 (by decide)
  obtain ⟨v25, e25⟩ : ∃ v, q.tmps.getD 25 undef = v := ⟨_, rfl⟩
  have f25 : (Fact.pnew w.heap.size [(1, 0, 0, 0, 2, 0, 9)]).1 u v25 := by rw [← e25]; exact hfact 20 (by decide)
  have B3 : Hid (Below w.heap.size w u) := B2.out.trans (hb.mono B2.out.size)
  obtain rfl := frame_puts hsz hdf [5, 6, 7, 8, 9, 10, 11, 12, 13, 14, 15, 16, 17, 18, 19, 20, 21, 22, 23, 24, 25, 26, 27, 28, 0] hold [(5, Value.agg #[.int .i64 1, .int .i64 0, .int .i64 0, .int .i64 0, .int .i64 2, .int .i64 0, .int .i64 9]), (6, Value.agg #[.int .i64 2, .int .i64 0, .int .i64 0, .int .i64 0, .int .i64 3, .int .i64 0, .int .i64 9]), (7, v7), (8, v8), (9, Value.agg #[.int .i64 1, .int .i64 0, .int .i64 0, .int .i64 0, .int .i64 2, .int .i64 0, .int .i64 9]), (10, v10), (11, Value.bool true), (12, Value.bool true), (13, Value.agg #[.int .i64 2, .int .i64 0, .int .i64 0, .int .i64 0, .int .i64 3, .int .i64 0, .int .i64 9]), (14, v14), (15, v15), (16, Value.agg #[.int .i64 2, .int .i64 0, .int .i64 0, .int .i64 0, .int .i64 3, .int .i64 0, .int .i64 9]), (17, v17), (18, Value.bool true), (19, Value.bool true), (20, Value.bool true), (21, Value.agg #[.int .i64 1, .int .i64 0, .int .i64 0, .int .i64 0, .int .i64 2, .int .i64 0, .int .i64 9]), (22, Value.agg #[.int .i64 2, .int .i64 0, .int .i64 0, .int .i64 0, .int .i64 3, .int .i64 0, .int .i64 9]), (23, v23), (24, v24), (25, v25), (26, Value.int .i64 1), (27, Value.bool true), (28, Value.bool true), (0, Value.bool true)] ⟨hfact 0 (by decide), hfact 1 (by decide), e7, e8, hfact 4 (by decide), e10, hfact 6 (by decide), hfact 7 (by decide), hfact 8 (by decide), e14, e15, hfact 11 (by decide), e17, hfact 13 (by decide), hfact 14 (by decide), hfact 15 (by decide), hfact 16 (by decide), hfact 17 (by decide), e23, e24, e25, hfact 21 (by decide), hfact 22 (by decide), hfact 23 (by decide), hfact 24 (by decide), trivial⟩ rfl
  clear hsz hdf hold hfact
  clear hb X1 X2 B2
  simp only [puts, Act.put, List.setIfInBounds_toArray, List.set_cons_zero, List.set_cons_succ]
  go_wp2
  go_ret
  exact ⟨rfl, B3.out⟩

end Go.Proofs.Ytmfmdicdbjghkaa
