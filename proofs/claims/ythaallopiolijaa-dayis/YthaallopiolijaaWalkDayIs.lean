/-
  The walk of DayIs.
-/
import Derived.Test.YthaallopiolijaaDayFacts
import Derived.Test.YthaallopiolijaaRulArg
namespace Go.Proofs.Ythaallopiolijaa
open Go.RowKit
set_option linter.unusedVariables false
set_option linter.unusedSimpArgs false
namespace Walk

theorem dayIs_out (p : Int) (a : Option Addr) (len cap : Nat) (cut cl per : Int) (w : World) (h : 20 < (len : Int)) : Calls Try.prog 3 #[.agg #[.int .i64 p, .slice a len cap, .int .i64 cut, .int .i64 cl, .int .i64 per]] w fun e w' => e = .returned (.bool true) ∧ Below w.heap.size w w' := by
  have hd : decide (20 < (len : Int)) = true := by simpa using h
  go_enter Try.func3, Try.ntmps3
  go_wp2
  go_quiet (fail)
  go_wp2
  go_ret
  exact ⟨rfl, below_drewN (box_below _ _) _⟩

set_option maxHeartbeats 4000000 in
theorem dayIs_in (p : Int) (a : Option Addr) (len cap : Nat) (P C : Nat → Int) (cut cl per : Int) (w : World) (h : Asts w a len P C) (hl : len ≤ 20) : Calls Try.prog 3 #[.agg #[.int .i64 p, .slice a len cap, .int .i64 cut, .int .i64 cl, .int .i64 per]] w fun e w' => e = .returned (.bool true) ∧ Below w.heap.size w w' := by
  have hgt : ¬ 20 < (len : Int) := by omega
  have B0 : Hid (Below w.heap.size w (w.alloc (.cells #[.int .i64 p, .slice a len cap, .int .i64 cut, .int .i64 cl, .int .i64 per] 24))) := box_below _ _
  have IY : ∀ u, Below (w.alloc (.cells #[.int .i64 p, .slice a len cap, .int .i64 cut, .int .i64 cl, .int .i64 per] 24)).heap.size (w.alloc (.cells #[.int .i64 p, .slice a len cap, .int .i64 cut, .int .i64 cl, .int .i64 per] 24)) u → Calls Try.prog 8 #[.agg #[.int .i64 p, .slice a len cap, .int .i64 cut, .int .i64 cl, .int .i64 per]] u fun e w' => e = .returned (.bool (rulS p len P C cut cl per)) ∧ Below u.heap.size u w' := fun u hb => is_any p a len cap P C cut cl per u ((h.below B0.out).below hb) (by omega)
  have JY : ∀ u, Below (w.alloc (.cells #[.int .i64 p, .slice a len cap, .int .i64 cut, .int .i64 cl, .int .i64 per] 24)).heap.size (w.alloc (.cells #[.int .i64 p, .slice a len cap, .int .i64 cut, .int .i64 cl, .int .i64 per] 24)) u → Calls Try.prog 9 #[.agg #[.int .i64 p, .slice a len cap, .int .i64 cut, .int .i64 cl, .int .i64 per]] u fun e w' => e = .returned (.bool (rulS p len P C cut cl per)) ∧ Below u.heap.size u w' := fun u hb => refIs_any p a len cap P C cut cl per u ((h.below B0.out).below hb) (by omega)
  have R : Hid (RulAt (w.alloc (.cells #[.int .i64 p, .slice a len cap, .int .i64 cut, .int .i64 cl, .int .i64 per] 24)) w.heap.size p a len cap cut cl per) := rul_new _ _ _ _ _ _ _ _ _ _
  generalize rulS p len P C cut cl per = V at IY JY
  obtain ⟨g, hg⟩ : ∃ g, w.heap.size = g := ⟨_, rfl⟩
  rw [hg] at R
  have HG : Hid (w.heap.size = g) := hg
  clear hg h
  go_enter Try.func3, Try.ntmps3
  go_wp2
  rw [HG.out]
  refine region_owes (L := [Fact.is (.pointer (some ⟨g, 1, none⟩)),
    Fact.is (.slice a len cap),
    Fact.is (.int .i64 len),
    Fact.is (.bool false),
    Fact.is (.bool false),
    Fact.is (.agg #[.int .i64 p, .slice a len cap, .int .i64 cut, .int .i64 cl, .int .i64 per]),
    Fact.is (.bool V),
    Fact.is (.agg #[.int .i64 p, .slice a len cap, .int .i64 cut, .int .i64 cl, .int .i64 per]),
    Fact.is (.bool V),
    Fact.is (.bool true),
    Fact.is (.bool true),
    Fact.is (.bool true),
    Fact.is (.bool true),
    Fact.is (.bool true),
    Fact.is (.bool true)])
    (T := [3, 4, 5, 6, 7, 8, 9, 10, 11, 12, 13, 14, 15, 16, 2]) (by kernel_rfl) (by kernel_rfl) rfl ?owes ?_
  case owes =>
    refine .cons (owes_value fun q u lh => ⟨wants_free rfl, .pointer (some ⟨g, 1, none⟩), by have e1 : q.tmps.getD 1 undef = .pointer (some ⟨g, 0, none⟩) := lh.old 1 rfl; simp [execOp, Act.eval, e1, go_sem], rfl⟩) ?_
    refine .cons (owes_value fun q u lh => ⟨wants_free rfl, .slice a len cap, by have e3 : q.tmps.getD 3 undef = .pointer (some ⟨g, 1, none⟩) := lh.dep 0 rfl; obtain ⟨p0, p1, p2, p3, p4⟩ := R.out.below lh.below; simp [execOp, Act.eval, e3, p1, go_sem], rfl⟩) ?_
    refine .cons (owes_value fun q u lh => ⟨wants_free rfl, .int .i64 len, by have e4 : q.tmps.getD 4 undef = .slice a len cap := lh.dep 1 rfl; simp [execOp, Act.eval, e4, go_sem], rfl⟩) ?_
    refine .cons (owes_value fun q u lh => ⟨wants_free rfl, .bool false, by have e5 : q.tmps.getD 5 undef = .int .i64 len := lh.dep 2 rfl; simp [execOp, Act.eval, e5, hgt, go_sem], rfl⟩) ?_
    refine .cons (owes_move (.tmp 6) (.inl rfl) fun q u lh => ⟨wants_free rfl, lh.dep 3 rfl⟩) ?_
    refine .cons (owes_value fun q u lh => ⟨lh.wants1 4 false rfl rfl rfl, .agg #[.int .i64 p, .slice a len cap, .int .i64 cut, .int .i64 cl, .int .i64 per], by have e1 : q.tmps.getD 1 undef = .pointer (some ⟨g, 0, none⟩) := lh.old 1 rfl; obtain ⟨p0, p1, p2, p3, p4⟩ := R.out.below lh.below; simp [execOp, Act.eval, e1, p0, p1, p2, p3, p4, go_sem], rfl⟩) ?_
    refine .cons (owes_call 8 Try.func8 (by kernel_rfl) (by kernel_rfl) [.tmp 8] #[24] rfl fun q u lh => ⟨lh.wants1 4 false rfl rfl rfl, by have e8 : q.tmps.getD 8 undef = .agg #[.int .i64 p, .slice a len cap, .int .i64 cut, .int .i64 cl, .int .i64 per] := lh.dep 5 rfl; show Calls Try.prog 8 #[q.tmps.getD 8 undef] u _; rw [e8]; exact bool_fact (IY u lh.below)⟩) ?_
    refine .cons (owes_value fun q u lh => ⟨lh.wants1 4 false rfl rfl rfl, .agg #[.int .i64 p, .slice a len cap, .int .i64 cut, .int .i64 cl, .int .i64 per], by have e1 : q.tmps.getD 1 undef = .pointer (some ⟨g, 0, none⟩) := lh.old 1 rfl; obtain ⟨p0, p1, p2, p3, p4⟩ := R.out.below lh.below; simp [execOp, Act.eval, e1, p0, p1, p2, p3, p4, go_sem], rfl⟩) ?_
    refine .cons (owes_call 9 Try.func9 (by kernel_rfl) (by kernel_rfl) [.tmp 10] #[24] rfl fun q u lh => ⟨lh.wants1 4 false rfl rfl rfl, by have e10 : q.tmps.getD 10 undef = .agg #[.int .i64 p, .slice a len cap, .int .i64 cut, .int .i64 cl, .int .i64 per] := lh.dep 7 rfl; show Calls Try.prog 9 #[q.tmps.getD 10 undef] u _; rw [e10]; exact bool_fact (JY u lh.below)⟩) ?_
    refine .cons (owes_eql 4 4 (.tmp 9) (.tmp 11) rfl rfl fun q u lh => ⟨lh.wants1 4 false rfl rfl rfl, .bool V, lh.dep 6 rfl, lh.dep 8 rfl, eq_bool⟩) ?_
    refine .cons (owes_move (.tmp 12) (.inl rfl) fun q u lh => ⟨lh.wants1 4 false rfl rfl rfl, lh.dep 9 rfl⟩) ?_
    refine .cons (owes_call 10 Try.func10 (by kernel_rfl) (by kernel_rfl) [] #[] rfl fun q u lh => ⟨lh.wants1 10 true rfl rfl rfl, by show Calls Try.prog 10 #[] u _; exact known_fact u⟩) ?_
    refine .cons (owes_pick (.tmp 13) (.tmp 14) (.const (.bool false)) rfl fun q u lh => ⟨lh.wants1 4 false rfl rfl rfl, true, lh.dep 10 rfl, lh.dep 11 rfl⟩) ?_
    refine .cons (owes_pick (.tmp 7) (.const (.bool true)) (.tmp 15) rfl fun q u lh => ⟨wants_free rfl, false, lh.dep 4 rfl, lh.dep 12 rfl⟩) ?_
    refine .cons (owes_move (.tmp 16) (.inr rfl) fun q u lh => ⟨wants_free rfl, lh.dep 13 rfl⟩) ?_
    exact .nil _
  intro q u hb hsz hdf hold hfact
  have hv : q.tmps.getD 2 undef = .bool true := hfact 14 (by decide)
  go_wp2
  refine bodyPost_ret (results_tmp rfl _ _ _) hdf ⟨?_, B0.out.trans (hb.mono B0.out.size)⟩
  rw [hv]

theorem dayIs (p0 : Int) (a0 : Option Addr) (len0 cap0 : Nat) (P C : Nat → Int) (cut cl per : Int) (w : World) (h : Asts w a0 len0 P C) : Calls Try.prog 3 #[.agg #[.int .i64 p0, .slice a0 len0 cap0, .int .i64 cut, .int .i64 cl, .int .i64 per]] w fun e w' => e = .returned (.bool true) ∧ Below w.heap.size w w' := by
  by_cases hl : len0 ≤ 20
  · exact dayIs_in p0 a0 len0 cap0 P C cut cl per w h hl
  · exact dayIs_out p0 a0 len0 cap0 cut cl per w (by omega)

end Walk
end Go.Proofs.Ythaallopiolijaa
