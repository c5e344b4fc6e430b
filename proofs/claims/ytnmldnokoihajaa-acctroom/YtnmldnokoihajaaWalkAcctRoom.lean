/-
  The walk of AcctRoom.
-/
import Derived.Test.YtnmldnokoihajaaAcctRef
import Derived.Test.YtnmldnokoihajaaKnown9
import Derived.Test.YtnmldnokoihajaaFactK
import Derived.Test.YtnmldnokoihajaaArgs
import Derived.Test.YtnmldnokoihajaaPlain
namespace Go.Proofs.Ytnmldnokoihajaa
open Go.RowKit
set_option linter.unusedVariables false
set_option linter.unusedSimpArgs false
namespace Walk

set_option maxHeartbeats 4000000 in
theorem acctRoom_out (b c r n : Int) (V : Bool) (w : World) (hV : acctB b c r = V) (h : V = false ∨ (V = true ∧ n < 1) ∨ (V = true ∧ 1 ≤ n ∧ 1099511627776 < n)) :
    Calls Try.prog 5 #[.agg #[.int .i64 b, .int .i64 c, .int .i64 r], .int .i64 n] w fun e w' => e = .returned (.bool true) ∧ Below w.heap.size w w' := by
  have J := refAcctIs_any b c r
  rw [hV] at J
  clear hV
  rcases h with rfl | ⟨rfl, h1⟩ | ⟨rfl, h1, h2⟩
  all_goals
    go_enter Try.func5, Try.ntmps5
    go_wp2_with fail
    go_at_call 7
    refine (J _).mono ?_
    rintro e w1 ⟨rfl, hb1⟩
    have A1 : Hid (At3 w1 w.heap.size b c r) := (At3.new _ _ _ _ _ _).below hb1
    have B1 : Hid (Below w.heap.size w w1) := (box_below _ _).trans (hb1.mono (box_below _ _).size)
    obtain ⟨p0, p1, p2⟩ := A1.out
    clear hb1 J
    go_wp2
    go_ret
    exact ⟨rfl, B1.out⟩

set_option maxHeartbeats 8000000 in
theorem acctRoom_in (b c r n : Int) (w : World) (hV : acctB b c r = true) (n0 : 1 ≤ n) (n1 : n ≤ 1099511627776) :
    Calls Try.prog 5 #[.agg #[.int .i64 b, .int .i64 c, .int .i64 r], .int .i64 n] w fun e w' => e = .returned (.bool true) ∧ Below w.heap.size w w' := by
  obtain ⟨b0, b1, c0, c1, r0, r1⟩ := acctB_yes.1 hV
  have J := refAcctIs_any b c r
  have M3 := room_any b c r 3 hV
  have M1 := room_any b c r 1 hV
  have M2 := room_any b c r 2 hV
  have e3 : roomV b c r 3 = b + c - r := by simp [roomV]
  have e1 : roomV b c r 1 = b + c := by simp [roomV]
  have e2 : roomV b c r 2 = b + c := by simp [roomV]
  rw [e3] at M3
  rw [e1] at M1
  rw [e2] at M2
  have O := accOut_any b c r n 3 hV (by omega) (by omega)
  have eR : outR r n 3 = r := by simp [outR]
  rw [eR, cond_same] at O
  have X3 : balB (b - n) = true → ∀ w, Calls Try.prog 14 #[.agg #[.int .i64 (b - n), .int .i64 c, .int .i64 r], .int .i64 3] w fun e w' => e = .returned (.int .i64 (b + c - r - n)) ∧ Below w.heap.size w w' := fun h w => by
    have hx : acctB (b - n) c r = true := by unfold acctB; rw [h, (acctB_sets hV).1, (acctB_sets hV).2]; rfl
    have := room_any (b - n) c r 3 hx w
    have e : roomV (b - n) c r 3 = b + c - r - n := by simp [roomV]; omega
    rw [e] at this
    exact this
  have X1 : balB (b - n) = true → ∀ w, Calls Try.prog 14 #[.agg #[.int .i64 (b - n), .int .i64 c, .int .i64 r], .int .i64 1] w fun e w' => e = .returned (.int .i64 (b + c - n)) ∧ Below w.heap.size w w' := fun h w => by
    have hx : acctB (b - n) c r = true := by unfold acctB; rw [h, (acctB_sets hV).1, (acctB_sets hV).2]; rfl
    have := room_any (b - n) c r 1 hx w
    have e : roomV (b - n) c r 1 = b + c - n := by simp [roomV]; omega
    rw [e] at this
    exact this
  obtain ⟨m, hm⟩ : ∃ m, b + c - r = m := ⟨_, rfl⟩
  obtain ⟨q1, hq⟩ : ∃ q, b + c = q := ⟨_, rfl⟩
  obtain ⟨x, hx⟩ : ∃ x, b - n = x := ⟨_, rfl⟩
  have m0 : -9000000000000000000 ≤ m := by omega
  have m1 : m ≤ 9000000000000000000 := by omega
  have q0 : -9000000000000000000 ≤ q1 := by omega
  have q2 : q1 ≤ 9000000000000000000 := by omega
  have hqm : q1 - m = r := by omega
  simp only [hm] at M3 X3
  simp only [hq] at M1 M2 X1
  simp only [hx] at X3 X1 O
  rw [hV] at J
  clear hV e1 e2 e3 eR hm hq hx b0 b1 c0 c1
  generalize balB x = v at O X3 X1
  go_enter Try.func5, Try.ntmps5
  go_wp2_with fail
  go_at_call 7
  refine (J _).mono ?_
  rintro e w1 ⟨rfl, hb1⟩
  have A1 : Hid (At3 w1 w.heap.size b c r) := (At3.new _ _ _ _ _ _).below hb1
  have B1 : Hid (Below w.heap.size w w1) := (box_below _ _).trans (hb1.mono (box_below _ _).size)
  obtain ⟨p0, p1, p2⟩ := A1.out
  clear hb1 J
  go_wp2
  refine region_owes (L := [Fact.is (.agg #[.int .i64 b, .int .i64 c, .int .i64 r]),
    Fact.is (.int .i64 m),
    Fact.is (.agg #[.int .i64 b, .int .i64 c, .int .i64 r]),
    Fact.is (.int .i64 q1),
    Fact.is (.int .i64 m),
    Fact.is (.int .i64 q1)])
    (T := [20, 21, 22, 23, 5, 6]) (by kernel_rfl) (by kernel_rfl) rfl ?owes ?_
  case owes =>
    refine .cons (owes_value fun q u lh => ⟨wants_free rfl, .agg #[.int .i64 b, .int .i64 c, .int .i64 r], by have e2 : q.tmps.getD 2 undef = .pointer (some ⟨w.heap.size, 0, none⟩) := lh.old 2 rfl; obtain ⟨p0, p1, p2⟩ := A1.out.below lh.below; simp [execOp, Act.eval, e2, p0, p1, p2, go_sem], rfl⟩) ?_
    refine .cons (owes_call 14 Try.func14 (by kernel_rfl) (by kernel_rfl) [.tmp 20, .const (.int .i64 3)] #[23, 3] rfl fun q u lh => ⟨wants_free rfl, by have e20 : q.tmps.getD 20 undef = .agg #[.int .i64 b, .int .i64 c, .int .i64 r] := lh.dep 0 rfl; show Calls Try.prog 14 #[q.tmps.getD 20 undef, (.int .i64 3)] u _; rw [e20]; exact int_fact (M3 u)⟩) ?_
    refine .cons (owes_value fun q u lh => ⟨wants_free rfl, .agg #[.int .i64 b, .int .i64 c, .int .i64 r], by have e2 : q.tmps.getD 2 undef = .pointer (some ⟨w.heap.size, 0, none⟩) := lh.old 2 rfl; obtain ⟨p0, p1, p2⟩ := A1.out.below lh.below; simp [execOp, Act.eval, e2, p0, p1, p2, go_sem], rfl⟩) ?_
    refine .cons (owes_call 14 Try.func14 (by kernel_rfl) (by kernel_rfl) [.tmp 22, .const (.int .i64 1)] #[23, 3] rfl fun q u lh => ⟨wants_free rfl, by have e22 : q.tmps.getD 22 undef = .agg #[.int .i64 b, .int .i64 c, .int .i64 r] := lh.dep 2 rfl; show Calls Try.prog 14 #[q.tmps.getD 22 undef, (.int .i64 1)] u _; rw [e22]; exact int_fact (M1 u)⟩) ?_
    refine .cons (owes_move (.tmp 21) (.inr rfl) fun q u lh => ⟨wants_free rfl, lh.dep 1 rfl⟩) ?_
    refine .cons (owes_move (.tmp 23) (.inr rfl) fun q u lh => ⟨wants_free rfl, lh.dep 3 rfl⟩) ?_
    exact .nil _
  intro q u hb hsz hdf hold hfact
  obtain rfl := frame_puts hsz hdf [20, 21, 22, 23, 5, 6] hold [(20, Value.agg #[.int .i64 b, .int .i64 c, .int .i64 r]), (21, Value.int .i64 m), (22, Value.agg #[.int .i64 b, .int .i64 c, .int .i64 r]), (23, Value.int .i64 q1), (5, Value.int .i64 m), (6, Value.int .i64 q1)] ⟨hfact 0 (by decide), hfact 1 (by decide), hfact 2 (by decide), hfact 3 (by decide), hfact 4 (by decide), hfact 5 (by decide), trivial⟩ rfl
  clear hsz hdf hold hfact
  simp only [puts, Act.put, List.setIfInBounds_toArray, List.set_cons_zero, List.set_cons_succ]
  have A2 : Hid (At3 u w.heap.size b c r) := A1.out.below hb
  have B2 : Hid (Below w.heap.size w u) := B1.out.trans (hb.mono B1.out.size)
  clear hb A1 B1 p0 p1 p2 M1 M3
  obtain ⟨p0, p1, p2⟩ := A2.out
  go_wp2_with fail
  go_at_call 14
  refine (M2 _).mono ?_
  rintro e w2 ⟨rfl, hb2⟩
  have A3 : Hid (At3 w2 w.heap.size b c r) := A2.out.below hb2
  have B3 : Hid (Below w.heap.size w w2) := B2.out.trans (hb2.mono B2.out.size)
  clear hb2 A2 B2 p0 p1 p2 M2
  obtain ⟨p0, p1, p2⟩ := A3.out
  go_wp2_with fail
  go_at_call 12
  refine (O _).mono ?_
  rintro e w3 ⟨rfl, hb3⟩
  have B4 : Hid (Below w.heap.size w w3) := B3.out.trans (hb3.mono B3.out.size)
  clear hb3 A3 B3 p0 p1 p2 O
  cases v
  · go_wp2
    go_ret
    exact ⟨rfl, B4.out.alloc B4.out.size _⟩
  · have Y3 := X3 rfl
    have Y1 := X1 rfl
    clear X3 X1
    go_wp2_with fail
    go_at_call 14
    refine (Y3 _).mono ?_
    rintro e w5 ⟨rfl, hb5⟩
    have A5 : Hid (At3 w5 w3.heap.size x c r) := (At3.new w3 x c r _ _).below hb5
    have B5 : Hid (Below w.heap.size w w5) := (B4.out.trans ((box_below w3 _).mono B4.out.size)).trans (hb5.mono (Nat.le_trans B4.out.size (box_below w3 _).size))
    clear hb5 B4 Y3
    obtain ⟨p0, p1, p2⟩ := A5.out
    go_wp2_with fail
    go_at_call 14
    refine (Y1 _).mono ?_
    rintro e w6 ⟨rfl, hb6⟩
    have B6 : Hid (Below w.heap.size w w6) := B5.out.trans (hb6.mono B5.out.size)
    clear hb6 B5 Y1 A5 p0 p1 p2
    go_wp2_with fail
    go_at_call 9
    refine (known9 _).mono ?_
    rintro e w7 ⟨rfl, hb7⟩
    have B7 : Hid (Below w.heap.size w w7) := B6.out.trans (hb7.mono B6.out.size)
    clear hb7 B6
    go_wp2
    go_ret
    exact ⟨rfl, B7.out⟩

theorem acctRoom (b c r a1 : Int) (w : World) (w0 : (Lit.int .i64 b).wf = true ∧ (Lit.int .i64 c).wf = true ∧ (Lit.int .i64 r).wf = true) (w1 : (Lit.int .i64 a1).wf = true) :
    Calls Try.prog 5 #[.agg #[.int .i64 b, .int .i64 c, .int .i64 r], .int .i64 a1] w fun e w' => e = .returned (.bool true) ∧ Below w.heap.size w w' := by
  cases hV : acctB b c r
  · exact acctRoom_out b c r a1 _ w hV (.inl rfl)
  · rcases Int.lt_or_le a1 1 with h | h
    · exact acctRoom_out b c r a1 _ w hV (.inr (.inl ⟨rfl, h⟩))
    · rcases Int.lt_or_le 1099511627776 a1 with k | k
      · exact acctRoom_out b c r a1 _ w hV (.inr (.inr ⟨rfl, h, k⟩))
      · exact acctRoom_in b c r a1 w hV h k

end Walk
end Go.Proofs.Ytnmldnokoihajaa
