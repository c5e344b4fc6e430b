/-
  The walk of PayChecks.
-/
import Derived.Test.YtddikbkodinmiaaKnown11
import Derived.Test.YtddikbkodinmiaaPayRef
import Derived.Test.YtddikbkodinmiaaFactK
import Derived.Test.YtddikbkodinmiaaRulArg
import Derived.Test.YtddikbkodinmiaaPayArg
namespace Go.Proofs.Ytddikbkodinmiaa
open Go.RowKit
set_option linter.unusedVariables false
set_option linter.unusedSimpArgs false
namespace Walk

theorem payChecks_out (p : Int) (a : Option Addr) (len cap : Nat) (cut cl per t : Int) (i f o m c s v : Int) (w : World) (h : 20 < (len : Int)) : Calls Try.prog 3 #[.agg #[.int .i64 p, .slice a len cap, .int .i64 cut, .int .i64 cl, .int .i64 per], .int .i64 t, .agg #[.int .i64 i, .int .i64 f, .int .i64 o, .int .i64 m, .int .i64 c, .int .i64 s, .int .i64 v]] w fun e w' => e = .returned (.bool true) ∧ Below w.heap.size w w' := by
  go_enter Try.func3, Try.ntmps3
  go_wp2
  go_ret
  exact ⟨rfl, (box_below _ _).alloc (box_below _ _).size _⟩

set_option maxHeartbeats 4000000 in
theorem payChecks_in (p : Int) (a : Option Addr) (len cap : Nat) (P C : Nat → Int) (cut cl per t : Int) (i f o m c s v : Int) (w : World) (h : Asts w a len P C) (hl : len ≤ 20) : Calls Try.prog 3 #[.agg #[.int .i64 p, .slice a len cap, .int .i64 cut, .int .i64 cl, .int .i64 per], .int .i64 t, .agg #[.int .i64 i, .int .i64 f, .int .i64 o, .int .i64 m, .int .i64 c, .int .i64 s, .int .i64 v]] w fun e w' => e = .returned (.bool true) ∧ Below w.heap.size w w' := by
  have hgt : (len : Int) ≤ 20 := by omega
  obtain ⟨w2, hw2⟩ : ∃ w2, w2 = (w.alloc (.cells #[.int .i64 p, .slice a len cap, .int .i64 cut, .int .i64 cl, .int .i64 per] 24)).alloc (.cells #[.int .i64 i, .int .i64 f, .int .i64 o, .int .i64 m, .int .i64 c, .int .i64 s, .int .i64 v] 26) := ⟨_, rfl⟩
  have B2 : Hid (Below w.heap.size w w2) := by rw [hw2]; exact (box_below _ _).alloc (box_below _ _).size _
  have R2 : Hid (RulAt w2 w.heap.size p a len cap cut cl per) := by rw [hw2]; exact (rul_new _ _ _ _ _ _ _ _ _ _).below (box_below _ _)
  have P2 : Hid (At7 w2 (w.heap.size + 1) 0 (i, f, o, m, c, s, v)) := by
    have := At7.new (w.alloc (.cells #[.int .i64 p, .slice a len cap, .int .i64 cut, .int .i64 cl, .int .i64 per] 24)) (i, f, o, m, c, s, v) 26 (0, 0)
    rw [size_alloc] at this
    rw [hw2]
    exact this
  have JY := refIs_any p a len cap P C cut cl per w2 (h.below B2.out) (by omega)
  generalize rulS p len P C cut cl per = V at JY
  have K1 := check_any p a len cap cut cl per i f o m c s v t
  have K2 := refCheck_any p a len cap cut cl per i f o m c s v t
  have R1 := ready_any i f o m c s v t
  have RR := refReady_any i f o m c s v t
  have L1 := late_any i f o m c s v t
  have L2 := refLate_any i f o m c s v t
  generalize ckS p cut cl i f o m c s v t = K at K1 K2
  generalize readyB s v t = x at R1 RR
  generalize lateB v t = y at L1 L2
  clear h
  go_enter Try.func3, Try.ntmps3
  go_wp2_with fail
  go_at_call 7
  rw [← hw2]
  refine JY.mono ?_
  rintro e w3 ⟨rfl, hb⟩
  have B3 : Hid (Below w.heap.size w w3) := B2.out.trans (hb.mono B2.out.size)
  have R : Hid (RulAt w3 w.heap.size p a len cap cut cl per) := R2.out.below hb
  have A : Hid (At7 w3 (w.heap.size + 1) 0 (i, f, o, m, c, s, v)) := P2.out.below hb
  clear hb hw2 JY B2 R2 P2
  cases V
  · go_wp2
    go_ret
    exact ⟨rfl, B3.out⟩
  go_wp2
  refine region_owes (L := [Fact.is (.agg #[.int .i64 p, .slice a len cap, .int .i64 cut, .int .i64 cl, .int .i64 per]),
    Fact.is (.int .i64 t),
    Fact.is (.agg #[.int .i64 i, .int .i64 f, .int .i64 o, .int .i64 m, .int .i64 c, .int .i64 s, .int .i64 v]),
    Fact.is (.int .i64 K),
    Fact.is (.agg #[.int .i64 p, .slice a len cap, .int .i64 cut, .int .i64 cl, .int .i64 per]),
    Fact.is (.int .i64 t),
    Fact.is (.agg #[.int .i64 i, .int .i64 f, .int .i64 o, .int .i64 m, .int .i64 c, .int .i64 s, .int .i64 v]),
    Fact.is (.int .i64 K),
    Fact.is (.bool true),
    Fact.is (.bool true),
    Fact.is (.agg #[.int .i64 i, .int .i64 f, .int .i64 o, .int .i64 m, .int .i64 c, .int .i64 s, .int .i64 v]),
    Fact.is (.int .i64 t),
    Fact.is (.bool x),
    Fact.is (.agg #[.int .i64 i, .int .i64 f, .int .i64 o, .int .i64 m, .int .i64 c, .int .i64 s, .int .i64 v]),
    Fact.is (.int .i64 t),
    Fact.is (.bool x),
    Fact.is (.bool true),
    Fact.is (.bool true),
    Fact.is (.bool true),
    Fact.is (.agg #[.int .i64 i, .int .i64 f, .int .i64 o, .int .i64 m, .int .i64 c, .int .i64 s, .int .i64 v]),
    Fact.is (.int .i64 t),
    Fact.is (.bool y),
    Fact.is (.agg #[.int .i64 i, .int .i64 f, .int .i64 o, .int .i64 m, .int .i64 c, .int .i64 s, .int .i64 v]),
    Fact.is (.int .i64 t),
    Fact.is (.bool y),
    Fact.is (.bool true),
    Fact.is (.bool true),
    Fact.is (.bool true),
    Fact.is (.bool true),
    Fact.is (.bool true),
    Fact.is (.bool true)])
    (T := [16, 17, 18, 19, 20, 21, 22, 23, 24, 25, 26, 27, 28, 29, 30, 31, 32, 33, 34, 35, 36, 37, 38, 39, 40, 41, 42, 43, 44, 45, 6]) (by kernel_rfl) (by kernel_rfl) rfl ?owes ?_
  case owes =>
    refine .cons (owes_value fun q u lh => ⟨wants_free rfl, .agg #[.int .i64 p, .slice a len cap, .int .i64 cut, .int .i64 cl, .int .i64 per], by have e3 : q.tmps.getD 3 undef = .pointer (some ⟨w.heap.size, 0, none⟩) := lh.old 3 rfl; obtain ⟨p0, p1, p2, p3, p4⟩ := R.out.below lh.below; simp [execOp, Act.eval, e3, p0, p1, p2, p3, p4, go_sem], rfl⟩) ?_
    refine .cons (owes_move (.tmp 1) (.inl rfl) fun q u lh => ⟨wants_free rfl, lh.old 1 rfl⟩) ?_
    refine .cons (owes_value fun q u lh => ⟨wants_free rfl, .agg #[.int .i64 i, .int .i64 f, .int .i64 o, .int .i64 m, .int .i64 c, .int .i64 s, .int .i64 v], by have e5 : q.tmps.getD 5 undef = .pointer (some ⟨w.heap.size + 1, 0, none⟩) := lh.old 5 rfl; obtain ⟨p0, p1, p2, p3, p4, p5, p6⟩ := A.out.below lh.below; simp only [P7.id, P7.fr, P7.to, P7.am, P7.cl, P7.st, P7.ti, Nat.zero_add] at p0 p1 p2 p3 p4 p5 p6; simp [execOp, Act.eval, e5, p0, p1, p2, p3, p4, p5, p6, go_sem], rfl⟩) ?_
    refine .cons (owes_call 8 Try.func8 (by kernel_rfl) (by kernel_rfl) [.tmp 16, .tmp 17, .tmp 18] #[24, 2, 26] rfl fun q u lh => ⟨wants_free rfl, by have e16 : q.tmps.getD 16 undef = .agg #[.int .i64 p, .slice a len cap, .int .i64 cut, .int .i64 cl, .int .i64 per] := lh.dep 0 rfl; have e17 : q.tmps.getD 17 undef = .int .i64 t := lh.dep 1 rfl; have e18 : q.tmps.getD 18 undef = .agg #[.int .i64 i, .int .i64 f, .int .i64 o, .int .i64 m, .int .i64 c, .int .i64 s, .int .i64 v] := lh.dep 2 rfl; show Calls Try.prog 8 #[q.tmps.getD 16 undef, q.tmps.getD 17 undef, q.tmps.getD 18 undef] u _; rw [e16, e17, e18]; exact int_fact (K1 _)⟩) ?_
    refine .cons (owes_value fun q u lh => ⟨wants_free rfl, .agg #[.int .i64 p, .slice a len cap, .int .i64 cut, .int .i64 cl, .int .i64 per], by have e3 : q.tmps.getD 3 undef = .pointer (some ⟨w.heap.size, 0, none⟩) := lh.old 3 rfl; obtain ⟨p0, p1, p2, p3, p4⟩ := R.out.below lh.below; simp [execOp, Act.eval, e3, p0, p1, p2, p3, p4, go_sem], rfl⟩) ?_
    refine .cons (owes_move (.tmp 1) (.inl rfl) fun q u lh => ⟨wants_free rfl, lh.old 1 rfl⟩) ?_
    refine .cons (owes_value fun q u lh => ⟨wants_free rfl, .agg #[.int .i64 i, .int .i64 f, .int .i64 o, .int .i64 m, .int .i64 c, .int .i64 s, .int .i64 v], by have e5 : q.tmps.getD 5 undef = .pointer (some ⟨w.heap.size + 1, 0, none⟩) := lh.old 5 rfl; obtain ⟨p0, p1, p2, p3, p4, p5, p6⟩ := A.out.below lh.below; simp only [P7.id, P7.fr, P7.to, P7.am, P7.cl, P7.st, P7.ti, Nat.zero_add] at p0 p1 p2 p3 p4 p5 p6; simp [execOp, Act.eval, e5, p0, p1, p2, p3, p4, p5, p6, go_sem], rfl⟩) ?_
    refine .cons (owes_call 9 Try.func9 (by kernel_rfl) (by kernel_rfl) [.tmp 20, .tmp 21, .tmp 22] #[24, 2, 26] rfl fun q u lh => ⟨wants_free rfl, by have e20 : q.tmps.getD 20 undef = .agg #[.int .i64 p, .slice a len cap, .int .i64 cut, .int .i64 cl, .int .i64 per] := lh.dep 4 rfl; have e21 : q.tmps.getD 21 undef = .int .i64 t := lh.dep 5 rfl; have e22 : q.tmps.getD 22 undef = .agg #[.int .i64 i, .int .i64 f, .int .i64 o, .int .i64 m, .int .i64 c, .int .i64 s, .int .i64 v] := lh.dep 6 rfl; show Calls Try.prog 9 #[q.tmps.getD 20 undef, q.tmps.getD 21 undef, q.tmps.getD 22 undef] u _; rw [e20, e21, e22]; exact int_fact (K2 _)⟩) ?_
    refine .cons (owes_eql 3 3 (.tmp 19) (.tmp 23) rfl rfl fun q u lh => ⟨wants_free rfl, .int .i64 K, lh.dep 3 rfl, lh.dep 7 rfl, eq_num⟩) ?_
    refine .cons (owes_move (.tmp 24) (.inl rfl) fun q u lh => ⟨wants_free rfl, lh.dep 8 rfl⟩) ?_
    refine .cons (owes_value fun q u lh => ⟨lh.wants1 9 true rfl rfl rfl, .agg #[.int .i64 i, .int .i64 f, .int .i64 o, .int .i64 m, .int .i64 c, .int .i64 s, .int .i64 v], by have e5 : q.tmps.getD 5 undef = .pointer (some ⟨w.heap.size + 1, 0, none⟩) := lh.old 5 rfl; obtain ⟨p0, p1, p2, p3, p4, p5, p6⟩ := A.out.below lh.below; simp only [P7.id, P7.fr, P7.to, P7.am, P7.cl, P7.st, P7.ti, Nat.zero_add] at p0 p1 p2 p3 p4 p5 p6; simp [execOp, Act.eval, e5, p0, p1, p2, p3, p4, p5, p6, go_sem], rfl⟩) ?_
    refine .cons (owes_move (.tmp 1) (.inl rfl) fun q u lh => ⟨lh.wants1 9 true rfl rfl rfl, lh.old 1 rfl⟩) ?_
    refine .cons (owes_call 10 Try.func10 (by kernel_rfl) (by kernel_rfl) [.tmp 26, .tmp 27] #[26, 2] rfl fun q u lh => ⟨lh.wants1 9 true rfl rfl rfl, by have e26 : q.tmps.getD 26 undef = .agg #[.int .i64 i, .int .i64 f, .int .i64 o, .int .i64 m, .int .i64 c, .int .i64 s, .int .i64 v] := lh.dep 10 rfl; have e27 : q.tmps.getD 27 undef = .int .i64 t := lh.dep 11 rfl; show Calls Try.prog 10 #[q.tmps.getD 26 undef, q.tmps.getD 27 undef] u _; rw [e26, e27]; exact bool_fact (R1 _)⟩) ?_
    refine .cons (owes_value fun q u lh => ⟨lh.wants1 9 true rfl rfl rfl, .agg #[.int .i64 i, .int .i64 f, .int .i64 o, .int .i64 m, .int .i64 c, .int .i64 s, .int .i64 v], by have e5 : q.tmps.getD 5 undef = .pointer (some ⟨w.heap.size + 1, 0, none⟩) := lh.old 5 rfl; obtain ⟨p0, p1, p2, p3, p4, p5, p6⟩ := A.out.below lh.below; simp only [P7.id, P7.fr, P7.to, P7.am, P7.cl, P7.st, P7.ti, Nat.zero_add] at p0 p1 p2 p3 p4 p5 p6; simp [execOp, Act.eval, e5, p0, p1, p2, p3, p4, p5, p6, go_sem], rfl⟩) ?_
    refine .cons (owes_move (.tmp 1) (.inl rfl) fun q u lh => ⟨lh.wants1 9 true rfl rfl rfl, lh.old 1 rfl⟩) ?_
    refine .cons (owes_call 11 Try.func11 (by kernel_rfl) (by kernel_rfl) [.tmp 29, .tmp 30] #[26, 2] rfl fun q u lh => ⟨lh.wants1 9 true rfl rfl rfl, by have e29 : q.tmps.getD 29 undef = .agg #[.int .i64 i, .int .i64 f, .int .i64 o, .int .i64 m, .int .i64 c, .int .i64 s, .int .i64 v] := lh.dep 13 rfl; have e30 : q.tmps.getD 30 undef = .int .i64 t := lh.dep 14 rfl; show Calls Try.prog 11 #[q.tmps.getD 29 undef, q.tmps.getD 30 undef] u _; rw [e29, e30]; exact bool_fact (RR _)⟩) ?_
    refine .cons (owes_eql 4 4 (.tmp 28) (.tmp 31) rfl rfl fun q u lh => ⟨lh.wants1 9 true rfl rfl rfl, .bool x, lh.dep 12 rfl, lh.dep 15 rfl, eq_bool⟩) ?_
    refine .cons (owes_pick (.tmp 25) (.tmp 32) (.const (.bool false)) rfl fun q u lh => ⟨wants_free rfl, true, lh.dep 9 rfl, lh.dep 16 rfl⟩) ?_
    refine .cons (owes_move (.tmp 33) (.inl rfl) fun q u lh => ⟨wants_free rfl, lh.dep 17 rfl⟩) ?_
    refine .cons (owes_value fun q u lh => ⟨lh.wants1 18 true rfl rfl rfl, .agg #[.int .i64 i, .int .i64 f, .int .i64 o, .int .i64 m, .int .i64 c, .int .i64 s, .int .i64 v], by have e5 : q.tmps.getD 5 undef = .pointer (some ⟨w.heap.size + 1, 0, none⟩) := lh.old 5 rfl; obtain ⟨p0, p1, p2, p3, p4, p5, p6⟩ := A.out.below lh.below; simp only [P7.id, P7.fr, P7.to, P7.am, P7.cl, P7.st, P7.ti, Nat.zero_add] at p0 p1 p2 p3 p4 p5 p6; simp [execOp, Act.eval, e5, p0, p1, p2, p3, p4, p5, p6, go_sem], rfl⟩) ?_
    refine .cons (owes_move (.tmp 1) (.inl rfl) fun q u lh => ⟨lh.wants1 18 true rfl rfl rfl, lh.old 1 rfl⟩) ?_
    refine .cons (owes_call 12 Try.func12 (by kernel_rfl) (by kernel_rfl) [.tmp 35, .tmp 36] #[26, 2] rfl fun q u lh => ⟨lh.wants1 18 true rfl rfl rfl, by have e35 : q.tmps.getD 35 undef = .agg #[.int .i64 i, .int .i64 f, .int .i64 o, .int .i64 m, .int .i64 c, .int .i64 s, .int .i64 v] := lh.dep 19 rfl; have e36 : q.tmps.getD 36 undef = .int .i64 t := lh.dep 20 rfl; show Calls Try.prog 12 #[q.tmps.getD 35 undef, q.tmps.getD 36 undef] u _; rw [e35, e36]; exact bool_fact (L1 _)⟩) ?_
    refine .cons (owes_value fun q u lh => ⟨lh.wants1 18 true rfl rfl rfl, .agg #[.int .i64 i, .int .i64 f, .int .i64 o, .int .i64 m, .int .i64 c, .int .i64 s, .int .i64 v], by have e5 : q.tmps.getD 5 undef = .pointer (some ⟨w.heap.size + 1, 0, none⟩) := lh.old 5 rfl; obtain ⟨p0, p1, p2, p3, p4, p5, p6⟩ := A.out.below lh.below; simp only [P7.id, P7.fr, P7.to, P7.am, P7.cl, P7.st, P7.ti, Nat.zero_add] at p0 p1 p2 p3 p4 p5 p6; simp [execOp, Act.eval, e5, p0, p1, p2, p3, p4, p5, p6, go_sem], rfl⟩) ?_
    refine .cons (owes_move (.tmp 1) (.inl rfl) fun q u lh => ⟨lh.wants1 18 true rfl rfl rfl, lh.old 1 rfl⟩) ?_
    refine .cons (owes_call 13 Try.func13 (by kernel_rfl) (by kernel_rfl) [.tmp 38, .tmp 39] #[26, 2] rfl fun q u lh => ⟨lh.wants1 18 true rfl rfl rfl, by have e38 : q.tmps.getD 38 undef = .agg #[.int .i64 i, .int .i64 f, .int .i64 o, .int .i64 m, .int .i64 c, .int .i64 s, .int .i64 v] := lh.dep 22 rfl; have e39 : q.tmps.getD 39 undef = .int .i64 t := lh.dep 23 rfl; show Calls Try.prog 13 #[q.tmps.getD 38 undef, q.tmps.getD 39 undef] u _; rw [e38, e39]; exact bool_fact (L2 _)⟩) ?_
    refine .cons (owes_eql 4 4 (.tmp 37) (.tmp 40) rfl rfl fun q u lh => ⟨lh.wants1 18 true rfl rfl rfl, .bool y, lh.dep 21 rfl, lh.dep 24 rfl, eq_bool⟩) ?_
    refine .cons (owes_pick (.tmp 34) (.tmp 41) (.const (.bool false)) rfl fun q u lh => ⟨wants_free rfl, true, lh.dep 18 rfl, lh.dep 25 rfl⟩) ?_
    refine .cons (owes_move (.tmp 42) (.inl rfl) fun q u lh => ⟨wants_free rfl, lh.dep 26 rfl⟩) ?_
    refine .cons (owes_call 14 Try.func14 (by kernel_rfl) (by kernel_rfl) [] #[] rfl fun q u lh => ⟨lh.wants1 27 true rfl rfl rfl, by show Calls Try.prog 14 #[] u _; exact bool_fact (known11 _)⟩) ?_
    refine .cons (owes_pick (.tmp 43) (.tmp 44) (.const (.bool false)) rfl fun q u lh => ⟨wants_free rfl, true, lh.dep 27 rfl, lh.dep 28 rfl⟩) ?_
    refine .cons (owes_move (.tmp 45) (.inr rfl) fun q u lh => ⟨wants_free rfl, lh.dep 29 rfl⟩) ?_
    exact .nil _
  intro q u hb hsz hdf hold hfact
  have hv : q.tmps.getD 6 undef = .bool true := hfact 30 (by decide)
  go_wp2
  refine bodyPost_ret (results_tmp rfl _ _ _) hdf ⟨?_, B3.out.trans (hb.mono B3.out.size)⟩
  rw [hv]

theorem payChecks (p : Int) (a : Option Addr) (len cap : Nat) (P C : Nat → Int) (cut cl per : Int) (t : Int) (i f o m c s v : Int) (w : World) (h : Asts w a len P C) (w1 : (Lit.int .i64 t).wf = true) (w2 : Wf7 (i, f, o, m, c, s, v)) : Calls Try.prog 3 #[.agg #[.int .i64 p, .slice a len cap, .int .i64 cut, .int .i64 cl, .int .i64 per], .int .i64 t, .agg #[.int .i64 i, .int .i64 f, .int .i64 o, .int .i64 m, .int .i64 c, .int .i64 s, .int .i64 v]] w fun e w' => e = .returned (.bool true) ∧ Below w.heap.size w w' := by
  by_cases hl : len ≤ 20
  · exact payChecks_in p a len cap P C cut cl per t i f o m c s v w h hl
  · exact payChecks_out p a len cap cut cl per t i f o m c s v w (by omega)

end Walk
end Go.Proofs.Ytddikbkodinmiaa
