/-
  The walk of DayTells.
-/
import Derived.Test.YthaallopiolijaaDayFacts
import Derived.Test.YthaallopiolijaaRulArg
namespace Go.Proofs.Ythaallopiolijaa
open Go.RowKit
set_option linter.unusedVariables false
set_option linter.unusedSimpArgs false
namespace Walk

theorem dayTells_out (p : Int) (a : Option Addr) (len cap : Nat) (cut cl per t c : Int) (w : World) (h : 20 < (len : Int)) : Calls Try.prog 4 #[.agg #[.int .i64 p, .slice a len cap, .int .i64 cut, .int .i64 cl, .int .i64 per], .int .i64 t, .int .i64 c] w fun e w' => e = .returned (.bool true) ∧ Below w.heap.size w w' := by
  go_enter Try.func4, Try.ntmps4
  go_wp2
  go_ret
  exact ⟨rfl, box_below _ _⟩

set_option maxHeartbeats 4000000 in
theorem dayTells_in (p : Int) (a : Option Addr) (len cap : Nat) (P C : Nat → Int) (cut cl per t c : Int) (w : World) (h : Asts w a len P C) (hl : len ≤ 20) : Calls Try.prog 4 #[.agg #[.int .i64 p, .slice a len cap, .int .i64 cut, .int .i64 cl, .int .i64 per], .int .i64 t, .int .i64 c] w fun e w' => e = .returned (.bool true) ∧ Below w.heap.size w w' := by
  have hgt : (len : Int) ≤ 20 := by omega
  have B0 : Hid (Below w.heap.size w (w.alloc (.cells #[.int .i64 p, .slice a len cap, .int .i64 cut, .int .i64 cl, .int .i64 per] 24))) := box_below _ _
  have JY := refIs_any p a len cap P C cut cl per _ (h.below B0.out) (by omega)
  have R0 : Hid (RulAt (w.alloc (.cells #[.int .i64 p, .slice a len cap, .int .i64 cut, .int .i64 cl, .int .i64 per] 24)) w.heap.size p a len cap cut cl per) := rul_new _ _ _ _ _ _ _ _ _ _
  obtain ⟨V, hV⟩ : ∃ V, rulS p len P C cut cl per = V := ⟨_, rfl⟩
  rw [hV] at JY
  have HV : Hid (rulS p len P C cut cl per = V) := hV
  obtain ⟨g, hg⟩ : ∃ g, w.heap.size = g := ⟨_, rfl⟩
  rw [hg] at R0
  have HG : Hid (w.heap.size = g) := hg
  clear hg h hV
  go_enter Try.func4, Try.ntmps4
  go_wp2_with fail
  go_at_call 9
  refine JY.mono ?_
  rintro e w1 ⟨rfl, hb1⟩
  have B1 : Hid (Below w.heap.size w w1) := B0.out.trans (hb1.mono B0.out.size)
  have R : Hid (RulAt w1 g p a len cap cut cl per) := R0.out.below hb1
  rw [HG.out]
  clear JY hb1 R0 B0
  cases V
  · go_wp2
    go_ret
    exact ⟨rfl, B1.out⟩
  have hper : 1 ≤ per := by
    have := HV.out
    simp only [rulS, inB, Bool.and_eq_true, decide_eq_true_iff] at this
    omega
  have M1 := may_any p a len cap cut cl per t c
  have M2 := refMay_any p a len cap cut cl per t c
  have S1 := solves_any p a len cap cut cl per t
  have S2 := fun w => refSolves_any p a len cap cut cl per t w hper
  have C1 := closes_any p a len cap cut cl per t
  have C2 := refCloses_any p a len cap cut cl per t
  generalize mayS cut cl t c = m at M1 M2
  generalize solS cl per t = s at S1 S2
  generalize endS cl t = z at C1 C2
  clear HV hper
  go_wp2
  refine region_owes (L := [Fact.is (.agg #[.int .i64 p, .slice a len cap, .int .i64 cut, .int .i64 cl, .int .i64 per]),
    Fact.is (.int .i64 t),
    Fact.is (.int .i64 c),
    Fact.is (.int .i64 m),
    Fact.is (.agg #[.int .i64 p, .slice a len cap, .int .i64 cut, .int .i64 cl, .int .i64 per]),
    Fact.is (.int .i64 t),
    Fact.is (.int .i64 c),
    Fact.is (.int .i64 m),
    Fact.is (.bool true),
    Fact.is (.bool true),
    Fact.is (.agg #[.int .i64 p, .slice a len cap, .int .i64 cut, .int .i64 cl, .int .i64 per]),
    Fact.is (.int .i64 t),
    Fact.is (.bool s),
    Fact.is (.agg #[.int .i64 p, .slice a len cap, .int .i64 cut, .int .i64 cl, .int .i64 per]),
    Fact.is (.int .i64 t),
    Fact.is (.bool s),
    Fact.is (.bool true),
    Fact.is (.bool true),
    Fact.is (.bool true),
    Fact.is (.agg #[.int .i64 p, .slice a len cap, .int .i64 cut, .int .i64 cl, .int .i64 per]),
    Fact.is (.int .i64 t),
    Fact.is (.bool z),
    Fact.is (.agg #[.int .i64 p, .slice a len cap, .int .i64 cut, .int .i64 cl, .int .i64 per]),
    Fact.is (.int .i64 t),
    Fact.is (.bool z),
    Fact.is (.bool true),
    Fact.is (.bool true),
    Fact.is (.bool true),
    Fact.is (.bool true),
    Fact.is (.bool true),
    Fact.is (.bool true)])
    (T := [16, 17, 18, 19, 20, 21, 22, 23, 24, 25, 26, 27, 28, 29, 30, 31, 32, 33, 34, 35, 36, 37, 38, 39, 40, 41, 42, 43, 44, 45, 6]) (by kernel_rfl) (by kernel_rfl) rfl ?owes ?_
  case owes =>
    refine .cons (owes_value fun q u lh => ⟨wants_free rfl, .agg #[.int .i64 p, .slice a len cap, .int .i64 cut, .int .i64 cl, .int .i64 per], by have e3 : q.tmps.getD 3 undef = .pointer (some ⟨g, 0, none⟩) := lh.old 3 rfl; obtain ⟨p0, p1, p2, p3, p4⟩ := R.out.below lh.below; simp [execOp, Act.eval, e3, p0, p1, p2, p3, p4, go_sem], rfl⟩) ?_
    refine .cons (owes_move (.tmp 1) (.inl rfl) fun q u lh => ⟨wants_free rfl, lh.old 1 rfl⟩) ?_
    refine .cons (owes_move (.tmp 2) (.inl rfl) fun q u lh => ⟨wants_free rfl, lh.old 2 rfl⟩) ?_
    refine .cons (owes_call 11 Try.func11 (by kernel_rfl) (by kernel_rfl) [.tmp 16, .tmp 17, .tmp 18] #[24, 2, 3] rfl fun q u lh => ⟨wants_free rfl, by have e16 : q.tmps.getD 16 undef = .agg #[.int .i64 p, .slice a len cap, .int .i64 cut, .int .i64 cl, .int .i64 per] := lh.dep 0 rfl; have e17 : q.tmps.getD 17 undef = .int .i64 t := lh.dep 1 rfl; have e18 : q.tmps.getD 18 undef = .int .i64 c := lh.dep 2 rfl; show Calls Try.prog 11 #[q.tmps.getD 16 undef, q.tmps.getD 17 undef, q.tmps.getD 18 undef] u _; rw [e16, e17, e18]; exact int_fact (M1 u)⟩) ?_
    refine .cons (owes_value fun q u lh => ⟨wants_free rfl, .agg #[.int .i64 p, .slice a len cap, .int .i64 cut, .int .i64 cl, .int .i64 per], by have e3 : q.tmps.getD 3 undef = .pointer (some ⟨g, 0, none⟩) := lh.old 3 rfl; obtain ⟨p0, p1, p2, p3, p4⟩ := R.out.below lh.below; simp [execOp, Act.eval, e3, p0, p1, p2, p3, p4, go_sem], rfl⟩) ?_
    refine .cons (owes_move (.tmp 1) (.inl rfl) fun q u lh => ⟨wants_free rfl, lh.old 1 rfl⟩) ?_
    refine .cons (owes_move (.tmp 2) (.inl rfl) fun q u lh => ⟨wants_free rfl, lh.old 2 rfl⟩) ?_
    refine .cons (owes_call 12 Try.func12 (by kernel_rfl) (by kernel_rfl) [.tmp 20, .tmp 21, .tmp 22] #[24, 2, 3] rfl fun q u lh => ⟨wants_free rfl, by have e20 : q.tmps.getD 20 undef = .agg #[.int .i64 p, .slice a len cap, .int .i64 cut, .int .i64 cl, .int .i64 per] := lh.dep 4 rfl; have e21 : q.tmps.getD 21 undef = .int .i64 t := lh.dep 5 rfl; have e22 : q.tmps.getD 22 undef = .int .i64 c := lh.dep 6 rfl; show Calls Try.prog 12 #[q.tmps.getD 20 undef, q.tmps.getD 21 undef, q.tmps.getD 22 undef] u _; rw [e20, e21, e22]; exact int_fact (M2 u)⟩) ?_
    refine .cons (owes_eql 3 3 (.tmp 19) (.tmp 23) rfl rfl fun q u lh => ⟨wants_free rfl, .int .i64 m, lh.dep 3 rfl, lh.dep 7 rfl, eq_num⟩) ?_
    refine .cons (owes_move (.tmp 24) (.inl rfl) fun q u lh => ⟨wants_free rfl, lh.dep 8 rfl⟩) ?_
    refine .cons (owes_value fun q u lh => ⟨lh.wants1 9 true rfl rfl rfl, .agg #[.int .i64 p, .slice a len cap, .int .i64 cut, .int .i64 cl, .int .i64 per], by have e3 : q.tmps.getD 3 undef = .pointer (some ⟨g, 0, none⟩) := lh.old 3 rfl; obtain ⟨p0, p1, p2, p3, p4⟩ := R.out.below lh.below; simp [execOp, Act.eval, e3, p0, p1, p2, p3, p4, go_sem], rfl⟩) ?_
    refine .cons (owes_move (.tmp 1) (.inl rfl) fun q u lh => ⟨lh.wants1 9 true rfl rfl rfl, lh.old 1 rfl⟩) ?_
    refine .cons (owes_call 13 Try.func13 (by kernel_rfl) (by kernel_rfl) [.tmp 26, .tmp 27] #[24, 2] rfl fun q u lh => ⟨lh.wants1 9 true rfl rfl rfl, by have e26 : q.tmps.getD 26 undef = .agg #[.int .i64 p, .slice a len cap, .int .i64 cut, .int .i64 cl, .int .i64 per] := lh.dep 10 rfl; have e27 : q.tmps.getD 27 undef = .int .i64 t := lh.dep 11 rfl; show Calls Try.prog 13 #[q.tmps.getD 26 undef, q.tmps.getD 27 undef] u _; rw [e26, e27]; exact bool_fact (S1 u)⟩) ?_
    refine .cons (owes_value fun q u lh => ⟨lh.wants1 9 true rfl rfl rfl, .agg #[.int .i64 p, .slice a len cap, .int .i64 cut, .int .i64 cl, .int .i64 per], by have e3 : q.tmps.getD 3 undef = .pointer (some ⟨g, 0, none⟩) := lh.old 3 rfl; obtain ⟨p0, p1, p2, p3, p4⟩ := R.out.below lh.below; simp [execOp, Act.eval, e3, p0, p1, p2, p3, p4, go_sem], rfl⟩) ?_
    refine .cons (owes_move (.tmp 1) (.inl rfl) fun q u lh => ⟨lh.wants1 9 true rfl rfl rfl, lh.old 1 rfl⟩) ?_
    refine .cons (owes_call 14 Try.func14 (by kernel_rfl) (by kernel_rfl) [.tmp 29, .tmp 30] #[24, 2] rfl fun q u lh => ⟨lh.wants1 9 true rfl rfl rfl, by have e29 : q.tmps.getD 29 undef = .agg #[.int .i64 p, .slice a len cap, .int .i64 cut, .int .i64 cl, .int .i64 per] := lh.dep 13 rfl; have e30 : q.tmps.getD 30 undef = .int .i64 t := lh.dep 14 rfl; show Calls Try.prog 14 #[q.tmps.getD 29 undef, q.tmps.getD 30 undef] u _; rw [e29, e30]; exact bool_fact (S2 u)⟩) ?_
    refine .cons (owes_eql 4 4 (.tmp 28) (.tmp 31) rfl rfl fun q u lh => ⟨lh.wants1 9 true rfl rfl rfl, .bool s, lh.dep 12 rfl, lh.dep 15 rfl, eq_bool⟩) ?_
    refine .cons (owes_pick (.tmp 25) (.tmp 32) (.const (.bool false)) rfl fun q u lh => ⟨wants_free rfl, true, lh.dep 9 rfl, lh.dep 16 rfl⟩) ?_
    refine .cons (owes_move (.tmp 33) (.inl rfl) fun q u lh => ⟨wants_free rfl, lh.dep 17 rfl⟩) ?_
    refine .cons (owes_value fun q u lh => ⟨lh.wants1 18 true rfl rfl rfl, .agg #[.int .i64 p, .slice a len cap, .int .i64 cut, .int .i64 cl, .int .i64 per], by have e3 : q.tmps.getD 3 undef = .pointer (some ⟨g, 0, none⟩) := lh.old 3 rfl; obtain ⟨p0, p1, p2, p3, p4⟩ := R.out.below lh.below; simp [execOp, Act.eval, e3, p0, p1, p2, p3, p4, go_sem], rfl⟩) ?_
    refine .cons (owes_move (.tmp 1) (.inl rfl) fun q u lh => ⟨lh.wants1 18 true rfl rfl rfl, lh.old 1 rfl⟩) ?_
    refine .cons (owes_call 15 Try.func15 (by kernel_rfl) (by kernel_rfl) [.tmp 35, .tmp 36] #[24, 2] rfl fun q u lh => ⟨lh.wants1 18 true rfl rfl rfl, by have e35 : q.tmps.getD 35 undef = .agg #[.int .i64 p, .slice a len cap, .int .i64 cut, .int .i64 cl, .int .i64 per] := lh.dep 19 rfl; have e36 : q.tmps.getD 36 undef = .int .i64 t := lh.dep 20 rfl; show Calls Try.prog 15 #[q.tmps.getD 35 undef, q.tmps.getD 36 undef] u _; rw [e35, e36]; exact bool_fact (C1 u)⟩) ?_
    refine .cons (owes_value fun q u lh => ⟨lh.wants1 18 true rfl rfl rfl, .agg #[.int .i64 p, .slice a len cap, .int .i64 cut, .int .i64 cl, .int .i64 per], by have e3 : q.tmps.getD 3 undef = .pointer (some ⟨g, 0, none⟩) := lh.old 3 rfl; obtain ⟨p0, p1, p2, p3, p4⟩ := R.out.below lh.below; simp [execOp, Act.eval, e3, p0, p1, p2, p3, p4, go_sem], rfl⟩) ?_
    refine .cons (owes_move (.tmp 1) (.inl rfl) fun q u lh => ⟨lh.wants1 18 true rfl rfl rfl, lh.old 1 rfl⟩) ?_
    refine .cons (owes_call 16 Try.func16 (by kernel_rfl) (by kernel_rfl) [.tmp 38, .tmp 39] #[24, 2] rfl fun q u lh => ⟨lh.wants1 18 true rfl rfl rfl, by have e38 : q.tmps.getD 38 undef = .agg #[.int .i64 p, .slice a len cap, .int .i64 cut, .int .i64 cl, .int .i64 per] := lh.dep 22 rfl; have e39 : q.tmps.getD 39 undef = .int .i64 t := lh.dep 23 rfl; show Calls Try.prog 16 #[q.tmps.getD 38 undef, q.tmps.getD 39 undef] u _; rw [e38, e39]; exact bool_fact (C2 u)⟩) ?_
    refine .cons (owes_eql 4 4 (.tmp 37) (.tmp 40) rfl rfl fun q u lh => ⟨lh.wants1 18 true rfl rfl rfl, .bool z, lh.dep 21 rfl, lh.dep 24 rfl, eq_bool⟩) ?_
    refine .cons (owes_pick (.tmp 34) (.tmp 41) (.const (.bool false)) rfl fun q u lh => ⟨wants_free rfl, true, lh.dep 18 rfl, lh.dep 25 rfl⟩) ?_
    refine .cons (owes_move (.tmp 42) (.inl rfl) fun q u lh => ⟨wants_free rfl, lh.dep 26 rfl⟩) ?_
    refine .cons (owes_call 10 Try.func10 (by kernel_rfl) (by kernel_rfl) [] #[] rfl fun q u lh => ⟨lh.wants1 27 true rfl rfl rfl, by show Calls Try.prog 10 #[] u _; exact known_fact u⟩) ?_
    refine .cons (owes_pick (.tmp 43) (.tmp 44) (.const (.bool false)) rfl fun q u lh => ⟨wants_free rfl, true, lh.dep 27 rfl, lh.dep 28 rfl⟩) ?_
    refine .cons (owes_move (.tmp 45) (.inr rfl) fun q u lh => ⟨wants_free rfl, lh.dep 29 rfl⟩) ?_
    exact .nil _
  intro q u hb hsz hdf hold hfact
  have hv : q.tmps.getD 6 undef = .bool true := hfact 30 (by decide)
  go_wp2
  refine bodyPost_ret (results_tmp rfl _ _ _) hdf ⟨?_, B1.out.trans (hb.mono B1.out.size)⟩
  rw [hv]

theorem dayTells (p0 : Int) (a0 : Option Addr) (len0 cap0 : Nat) (P C : Nat → Int) (cut cl per : Int) (a1 a2 : Int) (w : World) (h : Asts w a0 len0 P C) (w1 : (Lit.int .i64 a1).wf = true) (w2 : (Lit.int .i64 a2).wf = true) : Calls Try.prog 4 #[.agg #[.int .i64 p0, .slice a0 len0 cap0, .int .i64 cut, .int .i64 cl, .int .i64 per], .int .i64 a1, .int .i64 a2] w fun e w' => e = .returned (.bool true) ∧ Below w.heap.size w w' := by
  by_cases hl : len0 ≤ 20
  · exact dayTells_in p0 a0 len0 cap0 P C cut cl per a1 a2 w h hl
  · exact dayTells_out p0 a0 len0 cap0 cut cl per a1 a2 w (by omega)

end Walk
end Go.Proofs.Ythaallopiolijaa
