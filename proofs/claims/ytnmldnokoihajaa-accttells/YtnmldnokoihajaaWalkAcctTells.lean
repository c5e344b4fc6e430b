/-
  The walk of AcctTells.
-/
import Derived.Test.YtnmldnokoihajaaAcctRef
import Derived.Test.YtnmldnokoihajaaKnown9
import Derived.Test.YtnmldnokoihajaaFactK
import Derived.Test.YtnmldnokoihajaaArgs
import Derived.Test.YtnmldnokoihajaaPlain
namespace Go.Proofs.Ytnmldnokoihajaa
open Go.RowKit
set_option linter.unusedVariables false
set_option linter.unusedSimpArgs false
namespace Walk

set_option maxHeartbeats 4000000 in
theorem acctTells_out (b c r n k : Int) (V : Bool) (w : World) (hV : acctB b c r = V) (h : V = false ∨ (V = true ∧ n < 0) ∨ (V = true ∧ 0 ≤ n ∧ k < 1) ∨ (V = true ∧ 0 ≤ n ∧ 1 ≤ k ∧ 3 < k)) :
    Calls Try.prog 3 #[.agg #[.int .i64 b, .int .i64 c, .int .i64 r], .int .i64 n, .int .i64 k] w fun e w' => e = .returned (.bool true) ∧ Below w.heap.size w w' := by
  have I := acctIs_any b c r
  have J := refAcctIs_any b c r
  rw [hV] at I J
  clear hV
  rcases h with rfl | ⟨rfl, h1⟩ | ⟨rfl, h1, h2⟩ | ⟨rfl, h1, h2, h3⟩
  all_goals
    go_enter Try.func3, Try.ntmps3
    go_wp2_with fail
    go_at_call 7
    refine (J _).mono ?_
    rintro e w1 ⟨rfl, hb1⟩
    have A1 : Hid (At3 w1 w.heap.size b c r) := (At3.new _ _ _ _ _ _).below hb1
    have B1 : Hid (Below w.heap.size w w1) := (box_below _ _).trans (hb1.mono (box_below _ _).size)
    obtain ⟨p0, p1, p2⟩ := A1.out
    clear hb1 J
    go_wp2_with fail
    go_at_call 8
    refine (I _).mono ?_
    rintro e w2 ⟨rfl, hb2⟩
    have A2 : Hid (At3 w2 w.heap.size b c r) := A1.out.below hb2
    have B2 : Hid (Below w.heap.size w w2) := B1.out.trans (hb2.mono B1.out.size)
    clear hb2 A1 B1 p0 p1 p2
    obtain ⟨p0, p1, p2⟩ := A2.out
    go_wp2_with fail
    go_at_call 8
    refine (I _).mono ?_
    rintro e w3 ⟨rfl, hb3⟩
    have B3 : Hid (Below w.heap.size w w3) := B2.out.trans (hb3.mono B2.out.size)
    clear hb3 B2 A2 p0 p1 p2
    go_wp2_with fail
    go_at_call 9
    refine (known9 _).mono ?_
    rintro e w4 ⟨rfl, hb4⟩
    have B4 : Hid (Below w.heap.size w w4) := B3.out.trans (hb4.mono B3.out.size)
    clear hb4 B3
    go_wp2
    go_ret
    exact ⟨rfl, B4.out⟩

set_option maxHeartbeats 8000000 in
theorem acctTells_in (b c r n k : Int) (w : World) (hV : acctB b c r = true) (n0 : 0 ≤ n) (n1 : n ≤ 9223372036854775807) (k0 : 1 ≤ k) (k1 : k ≤ 3) :
    Calls Try.prog 3 #[.agg #[.int .i64 b, .int .i64 c, .int .i64 r], .int .i64 n, .int .i64 k] w fun e w' => e = .returned (.bool true) ∧ Below w.heap.size w w' := by
  have I := acctIs_any b c r
  have J := refAcctIs_any b c r
  have N1 := accIn_any b c r n hV (by omega) n1
  have N2 := refIn_any b c r n hV (by omega) n1
  have O1 := accOut_any b c r n k hV n0 n1
  have O2 := refOut_any b c r n k hV n0 n1
  have M1 := room_any b c r k hV
  have M2 := refRoom_any b c r k hV
  obtain ⟨_, _, _, _, r0, r1⟩ := acctB_yes.1 hV
  have K1 := kept_any b c r n r0 (by omega) n0 n1
  have K2 := refKept_any b c r n r0 (by omega) n0 n1
  rw [hV] at I J
  generalize cond (balB (b + n)) (b + n) b = x at N1 N2
  generalize cond (balB (b + n)) (0 : Int) 8 = e1 at N1 N2
  generalize cond (balB (b - n)) (b - n) b = z at O1 O2
  generalize cond (balB (b - n)) (outR r n k) r = y at O1 O2
  generalize cond (balB (b - n)) (0 : Int) 8 = e2 at O1 O2
  generalize roomV b c r k = m at M1 M2
  generalize keptV r n = t at K1 K2
  clear hV r0 r1 n1
  go_enter Try.func3, Try.ntmps3
  go_wp2_with fail
  go_at_call 7
  refine (J _).mono ?_
  rintro e w1 ⟨rfl, hb1⟩
  have A1 : Hid (At3 w1 w.heap.size b c r) := (At3.new _ _ _ _ _ _).below hb1
  have B1 : Hid (Below w.heap.size w w1) := (box_below _ _).trans (hb1.mono (box_below _ _).size)
  obtain ⟨p0, p1, p2⟩ := A1.out
  clear hb1 J
  go_wp2_with fail
  go_at_call 8
  refine (I _).mono ?_
  rintro e w2 ⟨rfl, hb2⟩
  have A2 : Hid (At3 w2 w.heap.size b c r) := A1.out.below hb2
  have B2 : Hid (Below w.heap.size w w2) := B1.out.trans (hb2.mono B1.out.size)
  clear hb2 A1 B1 p0 p1 p2
  obtain ⟨p0, p1, p2⟩ := A2.out
  clear I
  obtain ⟨v2, hv2⟩ : ∃ v, v = w2 := ⟨_, rfl⟩
  rw [← hv2] at A2 B2 p0 p1 p2 ⊢
  clear hv2
  go_wp2_with fail
  go_at_call 10
  refine (N1 _).mono ?_
  rintro e w1 ⟨rfl, hb1⟩
  have A1 : Hid (At3 (w1.alloc (.cells #[.int .i64 x, .int .i64 c, .int .i64 r] 23)) w.heap.size b c r) := (A2.out.below hb1).below (box_below _ _)
  have X1 : Hid (At3 (w1.alloc (.cells #[.int .i64 x, .int .i64 c, .int .i64 r] 23)) w1.heap.size x c r) := At3.new _ _ _ _ _ _
  have B1 : Hid (Below w.heap.size w (w1.alloc (.cells #[.int .i64 x, .int .i64 c, .int .i64 r] 23))) := (B2.out.trans (hb1.mono B2.out.size)).alloc (B2.out.trans (hb1.mono B2.out.size)).size _
  clear hb1 A2 B2 p0 p1 p2 N1
  obtain ⟨p0, p1, p2⟩ := A1.out
  go_wp2_with fail
  go_at_call 11
  refine (N2 _).mono ?_
  rintro e w2 ⟨rfl, hb2⟩
  have A2 : Hid (At3 (w2.alloc (.cells #[.int .i64 x, .int .i64 c, .int .i64 r] 23)) w.heap.size b c r) := (A1.out.below hb2).below (box_below _ _)
  have X2 : Hid (At3 (w2.alloc (.cells #[.int .i64 x, .int .i64 c, .int .i64 r] 23)) w1.heap.size x c r) := (X1.out.below hb2).below (box_below _ _)
  have Y2 : Hid (At3 (w2.alloc (.cells #[.int .i64 x, .int .i64 c, .int .i64 r] 23)) w2.heap.size x c r) := At3.new _ _ _ _ _ _
  have B2 : Hid (Below w.heap.size w (w2.alloc (.cells #[.int .i64 x, .int .i64 c, .int .i64 r] 23))) := (B1.out.trans (hb2.mono B1.out.size)).alloc (B1.out.trans (hb2.mono B1.out.size)).size _
  clear hb2 A1 X1 B1 p0 p1 p2 N2
  obtain ⟨p0, p1, p2⟩ := A2.out
  go_wp2_with fail
  go_at_call 12
  refine (O1 _).mono ?_
  rintro e w3 ⟨rfl, hb3⟩
  have A3 : Hid (At3 (w3.alloc (.cells #[.int .i64 z, .int .i64 c, .int .i64 y] 23)) w.heap.size b c r) := (A2.out.below hb3).below (box_below _ _)
  have X3 : Hid (At3 (w3.alloc (.cells #[.int .i64 z, .int .i64 c, .int .i64 y] 23)) w1.heap.size x c r) := (X2.out.below hb3).below (box_below _ _)
  have Y3 : Hid (At3 (w3.alloc (.cells #[.int .i64 z, .int .i64 c, .int .i64 y] 23)) w2.heap.size x c r) := (Y2.out.below hb3).below (box_below _ _)
  have Z3 : Hid (At3 (w3.alloc (.cells #[.int .i64 z, .int .i64 c, .int .i64 y] 23)) w3.heap.size z c y) := At3.new _ _ _ _ _ _
  have B3 : Hid (Below w.heap.size w (w3.alloc (.cells #[.int .i64 z, .int .i64 c, .int .i64 y] 23))) := (B2.out.trans (hb3.mono B2.out.size)).alloc (B2.out.trans (hb3.mono B2.out.size)).size _
  clear hb3 A2 X2 Y2 B2 p0 p1 p2 O1
  obtain ⟨p0, p1, p2⟩ := A3.out
  go_wp2_with fail
  go_at_call 13
  refine (O2 _).mono ?_
  rintro e w4 ⟨rfl, hb4⟩
  have A5 : Hid (At3 (w4.alloc (.cells #[.int .i64 z, .int .i64 c, .int .i64 y] 23)) w.heap.size b c r) := (A3.out.below hb4).below (box_below _ _)
  have X5 : Hid (At3 (w4.alloc (.cells #[.int .i64 z, .int .i64 c, .int .i64 y] 23)) w1.heap.size x c r) := (X3.out.below hb4).below (box_below _ _)
  have Y5 : Hid (At3 (w4.alloc (.cells #[.int .i64 z, .int .i64 c, .int .i64 y] 23)) w2.heap.size x c r) := (Y3.out.below hb4).below (box_below _ _)
  have Z5 : Hid (At3 (w4.alloc (.cells #[.int .i64 z, .int .i64 c, .int .i64 y] 23)) w3.heap.size z c y) := (Z3.out.below hb4).below (box_below _ _)
  have T5 : Hid (At3 (w4.alloc (.cells #[.int .i64 z, .int .i64 c, .int .i64 y] 23)) w4.heap.size z c y) := At3.new _ _ _ _ _ _
  have B5 : Hid (Below w.heap.size w (w4.alloc (.cells #[.int .i64 z, .int .i64 c, .int .i64 y] 23))) := (B3.out.trans (hb4.mono B3.out.size)).alloc (B3.out.trans (hb4.mono B3.out.size)).size _
  clear hb4 A3 X3 Y3 Z3 B3 p0 p1 p2 O2
  go_wp2
  refine region_owes (L := [Fact.is (.agg #[.int .i64 b, .int .i64 c, .int .i64 r]),
    Fact.is (.int .i64 k),
    Fact.is (.int .i64 m),
    Fact.is (.agg #[.int .i64 b, .int .i64 c, .int .i64 r]),
    Fact.is (.int .i64 k),
    Fact.is (.int .i64 m),
    Fact.is (.bool true),
    Fact.is (.bool true),
    Fact.is (.agg #[.int .i64 b, .int .i64 c, .int .i64 r]),
    Fact.is (.int .i64 n),
    Fact.is (.int .i64 t),
    Fact.is (.agg #[.int .i64 b, .int .i64 c, .int .i64 r]),
    Fact.is (.int .i64 n),
    Fact.is (.int .i64 t),
    Fact.is (.bool true),
    Fact.is (.bool true),
    Fact.is (.bool true),
    Fact.is (.agg #[.int .i64 x, .int .i64 c, .int .i64 r]),
    Fact.is (.agg #[.int .i64 x, .int .i64 c, .int .i64 r]),
    Fact.is (.bool true),
    Fact.is (.bool true),
    Fact.is (.bool true),
    Fact.is (.int .i64 e1),
    Fact.is (.int .i64 e1),
    Fact.is (.bool true),
    Fact.is (.bool true),
    Fact.is (.bool true),
    Fact.is (.agg #[.int .i64 z, .int .i64 c, .int .i64 y]),
    Fact.is (.agg #[.int .i64 z, .int .i64 c, .int .i64 y]),
    Fact.is (.bool true),
    Fact.is (.bool true),
    Fact.is (.bool true),
    Fact.is (.int .i64 e2),
    Fact.is (.int .i64 e2),
    Fact.is (.bool true),
    Fact.is (.bool true),
    Fact.is (.bool true),
    Fact.is (.bool true),
    Fact.is (.bool true),
    Fact.is (.bool true)])
    (T := [71, 72, 73, 74, 75, 76, 77, 78, 79, 80, 81, 82, 83, 84, 85, 86, 87, 88, 89, 90, 91, 92, 93, 94, 95, 96, 97, 98, 99, 100, 101, 102, 103, 104, 105, 106, 107, 108, 109, 6]) (by kernel_rfl) (by kernel_rfl) rfl ?owes ?_
  case owes =>
    refine .cons (owes_value fun q u lh => ⟨wants_free rfl, .agg #[.int .i64 b, .int .i64 c, .int .i64 r], by have e3 : q.tmps.getD 3 undef = .pointer (some ⟨w.heap.size, 0, none⟩) := lh.old 3 rfl; obtain ⟨p0, p1, p2⟩ := A5.out.below lh.below; simp [execOp, Act.eval, e3, p0, p1, p2, go_sem], rfl⟩) ?_
    refine .cons (owes_move (.tmp 2) (.inl rfl) fun q u lh => ⟨wants_free rfl, lh.old 2 rfl⟩) ?_
    refine .cons (owes_call 14 Try.func14 (by kernel_rfl) (by kernel_rfl) [.tmp 71, .tmp 72] #[23, 3] rfl fun q u lh => ⟨wants_free rfl, by have e71 : q.tmps.getD 71 undef = .agg #[.int .i64 b, .int .i64 c, .int .i64 r] := lh.dep 0 rfl; have e72 : q.tmps.getD 72 undef = .int .i64 k := lh.dep 1 rfl; show Calls Try.prog 14 #[q.tmps.getD 71 undef, q.tmps.getD 72 undef] u _; rw [e71, e72]; exact int_fact (M1 u)⟩) ?_
    refine .cons (owes_value fun q u lh => ⟨wants_free rfl, .agg #[.int .i64 b, .int .i64 c, .int .i64 r], by have e3 : q.tmps.getD 3 undef = .pointer (some ⟨w.heap.size, 0, none⟩) := lh.old 3 rfl; obtain ⟨p0, p1, p2⟩ := A5.out.below lh.below; simp [execOp, Act.eval, e3, p0, p1, p2, go_sem], rfl⟩) ?_
    refine .cons (owes_move (.tmp 2) (.inl rfl) fun q u lh => ⟨wants_free rfl, lh.old 2 rfl⟩) ?_
    refine .cons (owes_call 15 Try.func15 (by kernel_rfl) (by kernel_rfl) [.tmp 74, .tmp 75] #[23, 3] rfl fun q u lh => ⟨wants_free rfl, by have e74 : q.tmps.getD 74 undef = .agg #[.int .i64 b, .int .i64 c, .int .i64 r] := lh.dep 3 rfl; have e75 : q.tmps.getD 75 undef = .int .i64 k := lh.dep 4 rfl; show Calls Try.prog 15 #[q.tmps.getD 74 undef, q.tmps.getD 75 undef] u _; rw [e74, e75]; exact int_fact (M2 u)⟩) ?_
    refine .cons (owes_eql 2 2 (.tmp 73) (.tmp 76) rfl rfl fun q u lh => ⟨wants_free rfl, .int .i64 m, lh.dep 2 rfl, lh.dep 5 rfl, eq_i64⟩) ?_
    refine .cons (owes_move (.tmp 77) (.inl rfl) fun q u lh => ⟨wants_free rfl, lh.dep 6 rfl⟩) ?_
    refine .cons (owes_value fun q u lh => ⟨lh.wants1 7 true rfl rfl rfl, .agg #[.int .i64 b, .int .i64 c, .int .i64 r], by have e3 : q.tmps.getD 3 undef = .pointer (some ⟨w.heap.size, 0, none⟩) := lh.old 3 rfl; obtain ⟨p0, p1, p2⟩ := A5.out.below lh.below; simp [execOp, Act.eval, e3, p0, p1, p2, go_sem], rfl⟩) ?_
    refine .cons (owes_move (.tmp 1) (.inl rfl) fun q u lh => ⟨lh.wants1 7 true rfl rfl rfl, lh.old 1 rfl⟩) ?_
    refine .cons (owes_call 16 Try.func16 (by kernel_rfl) (by kernel_rfl) [.tmp 79, .tmp 80] #[23, 2] rfl fun q u lh => ⟨lh.wants1 7 true rfl rfl rfl, by have e79 : q.tmps.getD 79 undef = .agg #[.int .i64 b, .int .i64 c, .int .i64 r] := lh.dep 8 rfl; have e80 : q.tmps.getD 80 undef = .int .i64 n := lh.dep 9 rfl; show Calls Try.prog 16 #[q.tmps.getD 79 undef, q.tmps.getD 80 undef] u _; rw [e79, e80]; exact int_fact (K1 u)⟩) ?_
    refine .cons (owes_value fun q u lh => ⟨lh.wants1 7 true rfl rfl rfl, .agg #[.int .i64 b, .int .i64 c, .int .i64 r], by have e3 : q.tmps.getD 3 undef = .pointer (some ⟨w.heap.size, 0, none⟩) := lh.old 3 rfl; obtain ⟨p0, p1, p2⟩ := A5.out.below lh.below; simp [execOp, Act.eval, e3, p0, p1, p2, go_sem], rfl⟩) ?_
    refine .cons (owes_move (.tmp 1) (.inl rfl) fun q u lh => ⟨lh.wants1 7 true rfl rfl rfl, lh.old 1 rfl⟩) ?_
    refine .cons (owes_call 17 Try.func17 (by kernel_rfl) (by kernel_rfl) [.tmp 82, .tmp 83] #[23, 2] rfl fun q u lh => ⟨lh.wants1 7 true rfl rfl rfl, by have e82 : q.tmps.getD 82 undef = .agg #[.int .i64 b, .int .i64 c, .int .i64 r] := lh.dep 11 rfl; have e83 : q.tmps.getD 83 undef = .int .i64 n := lh.dep 12 rfl; show Calls Try.prog 17 #[q.tmps.getD 82 undef, q.tmps.getD 83 undef] u _; rw [e82, e83]; exact int_fact (K2 u)⟩) ?_
    refine .cons (owes_eql 2 2 (.tmp 81) (.tmp 84) rfl rfl fun q u lh => ⟨lh.wants1 7 true rfl rfl rfl, .int .i64 t, lh.dep 10 rfl, lh.dep 13 rfl, eq_i64⟩) ?_
    refine .cons (owes_pick (.tmp 78) (.tmp 85) (.const (.bool false)) rfl fun q u lh => ⟨wants_free rfl, true, lh.dep 7 rfl, lh.dep 14 rfl⟩) ?_
    refine .cons (owes_move (.tmp 86) (.inl rfl) fun q u lh => ⟨wants_free rfl, lh.dep 15 rfl⟩) ?_
    refine .cons (owes_value fun q u lh => ⟨lh.wants1 16 true rfl rfl rfl, .agg #[.int .i64 x, .int .i64 c, .int .i64 r], by have e8 : q.tmps.getD 8 undef = .pointer (some ⟨w1.heap.size, 0, none⟩) := lh.old 8 rfl; obtain ⟨p0, p1, p2⟩ := X5.out.below lh.below; simp [execOp, Act.eval, e8, p0, p1, p2, go_sem], rfl⟩) ?_
    refine .cons (owes_value fun q u lh => ⟨lh.wants1 16 true rfl rfl rfl, .agg #[.int .i64 x, .int .i64 c, .int .i64 r], by have e10 : q.tmps.getD 10 undef = .pointer (some ⟨w2.heap.size, 0, none⟩) := lh.old 10 rfl; obtain ⟨p0, p1, p2⟩ := Y5.out.below lh.below; simp [execOp, Act.eval, e10, p0, p1, p2, go_sem], rfl⟩) ?_
    refine .cons (owes_eql 23 23 (.tmp 88) (.tmp 89) rfl rfl fun q u lh => ⟨lh.wants1 16 true rfl rfl rfl, .agg #[.int .i64 x, .int .i64 c, .int .i64 r], lh.dep 17 rfl, lh.dep 18 rfl, eq_acct⟩) ?_
    refine .cons (owes_pick (.tmp 87) (.tmp 90) (.const (.bool false)) rfl fun q u lh => ⟨wants_free rfl, true, lh.dep 16 rfl, lh.dep 19 rfl⟩) ?_
    refine .cons (owes_move (.tmp 91) (.inl rfl) fun q u lh => ⟨wants_free rfl, lh.dep 20 rfl⟩) ?_
    refine .cons (owes_move (.tmp 9) (.inl rfl) fun q u lh => ⟨lh.wants1 21 true rfl rfl rfl, lh.old 9 rfl⟩) ?_
    refine .cons (owes_move (.tmp 11) (.inl rfl) fun q u lh => ⟨lh.wants1 21 true rfl rfl rfl, lh.old 11 rfl⟩) ?_
    refine .cons (owes_eql 3 3 (.tmp 93) (.tmp 94) rfl rfl fun q u lh => ⟨lh.wants1 21 true rfl rfl rfl, .int .i64 e1, lh.dep 22 rfl, lh.dep 23 rfl, eq_num⟩) ?_
    refine .cons (owes_pick (.tmp 92) (.tmp 95) (.const (.bool false)) rfl fun q u lh => ⟨wants_free rfl, true, lh.dep 21 rfl, lh.dep 24 rfl⟩) ?_
    refine .cons (owes_move (.tmp 96) (.inl rfl) fun q u lh => ⟨wants_free rfl, lh.dep 25 rfl⟩) ?_
    refine .cons (owes_value fun q u lh => ⟨lh.wants1 26 true rfl rfl rfl, .agg #[.int .i64 z, .int .i64 c, .int .i64 y], by have e12 : q.tmps.getD 12 undef = .pointer (some ⟨w3.heap.size, 0, none⟩) := lh.old 12 rfl; obtain ⟨p0, p1, p2⟩ := Z5.out.below lh.below; simp [execOp, Act.eval, e12, p0, p1, p2, go_sem], rfl⟩) ?_
    refine .cons (owes_value fun q u lh => ⟨lh.wants1 26 true rfl rfl rfl, .agg #[.int .i64 z, .int .i64 c, .int .i64 y], by have e14 : q.tmps.getD 14 undef = .pointer (some ⟨w4.heap.size, 0, none⟩) := lh.old 14 rfl; obtain ⟨p0, p1, p2⟩ := T5.out.below lh.below; simp [execOp, Act.eval, e14, p0, p1, p2, go_sem], rfl⟩) ?_
    refine .cons (owes_eql 23 23 (.tmp 98) (.tmp 99) rfl rfl fun q u lh => ⟨lh.wants1 26 true rfl rfl rfl, .agg #[.int .i64 z, .int .i64 c, .int .i64 y], lh.dep 27 rfl, lh.dep 28 rfl, eq_acct⟩) ?_
    refine .cons (owes_pick (.tmp 97) (.tmp 100) (.const (.bool false)) rfl fun q u lh => ⟨wants_free rfl, true, lh.dep 26 rfl, lh.dep 29 rfl⟩) ?_
    refine .cons (owes_move (.tmp 101) (.inl rfl) fun q u lh => ⟨wants_free rfl, lh.dep 30 rfl⟩) ?_
    refine .cons (owes_move (.tmp 13) (.inl rfl) fun q u lh => ⟨lh.wants1 31 true rfl rfl rfl, lh.old 13 rfl⟩) ?_
    refine .cons (owes_move (.tmp 15) (.inl rfl) fun q u lh => ⟨lh.wants1 31 true rfl rfl rfl, lh.old 15 rfl⟩) ?_
    refine .cons (owes_eql 3 3 (.tmp 103) (.tmp 104) rfl rfl fun q u lh => ⟨lh.wants1 31 true rfl rfl rfl, .int .i64 e2, lh.dep 32 rfl, lh.dep 33 rfl, eq_num⟩) ?_
    refine .cons (owes_pick (.tmp 102) (.tmp 105) (.const (.bool false)) rfl fun q u lh => ⟨wants_free rfl, true, lh.dep 31 rfl, lh.dep 34 rfl⟩) ?_
    refine .cons (owes_move (.tmp 106) (.inl rfl) fun q u lh => ⟨wants_free rfl, lh.dep 35 rfl⟩) ?_
    refine .cons (owes_call 9 Try.func9 (by kernel_rfl) (by kernel_rfl) [] #[] rfl fun q u lh => ⟨lh.wants1 36 true rfl rfl rfl, by show Calls Try.prog 9 #[] u _; exact bool_fact (known9 u)⟩) ?_
    refine .cons (owes_pick (.tmp 107) (.tmp 108) (.const (.bool false)) rfl fun q u lh => ⟨wants_free rfl, true, lh.dep 36 rfl, lh.dep 37 rfl⟩) ?_
    refine .cons (owes_move (.tmp 109) (.inr rfl) fun q u lh => ⟨wants_free rfl, lh.dep 38 rfl⟩) ?_
    exact .nil _
  intro q u hb hsz hdf hold hfact
  have hv : q.tmps.getD 6 undef = .bool true := hfact 39 (by decide)
  go_wp2
  refine bodyPost_ret (results_tmp rfl _ _ _) hdf ⟨?_, B5.out.trans (hb.mono B5.out.size)⟩
  rw [hv]

theorem acctTells (b c r a1 a2 : Int) (w : World) (w0 : (Lit.int .i64 b).wf = true ∧ (Lit.int .i64 c).wf = true ∧ (Lit.int .i64 r).wf = true) (w1 : (Lit.int .i64 a1).wf = true) (w2 : (Lit.int .i64 a2).wf = true) :
    Calls Try.prog 3 #[.agg #[.int .i64 b, .int .i64 c, .int .i64 r], .int .i64 a1, .int .i64 a2] w fun e w' => e = .returned (.bool true) ∧ Below w.heap.size w w' := by
  have h1 := wf_i64 (wf_i64' _ w1)
  cases hV : acctB b c r
  · exact acctTells_out b c r a1 a2 _ w hV (.inl rfl)
  · rcases Int.lt_or_le a1 0 with h | h
    · exact acctTells_out b c r a1 a2 _ w hV (.inr (.inl ⟨rfl, h⟩))
    · rcases Int.lt_or_le a2 1 with k | k
      · exact acctTells_out b c r a1 a2 _ w hV (.inr (.inr (.inl ⟨rfl, h, k⟩)))
      · rcases Int.lt_or_le 3 a2 with m | m
        · exact acctTells_out b c r a1 a2 _ w hV (.inr (.inr (.inr ⟨rfl, h, k, m⟩)))
        · exact acctTells_in b c r a1 a2 w hV h (by omega) k m

end Walk
end Go.Proofs.Ytnmldnokoihajaa
