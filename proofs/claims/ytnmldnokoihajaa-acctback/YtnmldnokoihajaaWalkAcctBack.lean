/-
  The walk of AcctBack.
-/
import Derived.Test.YtnmldnokoihajaaAcctRef
import Derived.Test.YtnmldnokoihajaaKnown9
import Derived.Test.YtnmldnokoihajaaFactK
import Derived.Test.YtnmldnokoihajaaArgs
import Derived.Test.YtnmldnokoihajaaPlain
namespace Go.Proofs.Ytnmldnokoihajaa
open Go.RowKit
set_option linter.unusedVariables false
set_option linter.unusedSimpArgs false
namespace Walk

set_option maxHeartbeats 4000000 in
theorem acctBack_out (b c r n k : Int) (V : Bool) (w : World) (hV : acctB b c r = V) (h : V = false ∨ (V = true ∧ n < 0) ∨ (V = true ∧ 0 ≤ n ∧ k < 1) ∨ (V = true ∧ 0 ≤ n ∧ 1 ≤ k ∧ 3 < k)) :
    Calls Try.prog 4 #[.agg #[.int .i64 b, .int .i64 c, .int .i64 r], .int .i64 n, .int .i64 k] w fun e w' => e = .returned (.bool true) ∧ Below w.heap.size w w' := by
  have J := refAcctIs_any b c r
  rw [hV] at J
  clear hV
  rcases h with rfl | ⟨rfl, h1⟩ | ⟨rfl, h1, h2⟩ | ⟨rfl, h1, h2, h3⟩
  all_goals
    go_enter Try.func4, Try.ntmps4
    go_wp2_with fail
    go_at_call 7
    refine (J _).mono ?_
    rintro e w1 ⟨rfl, hb1⟩
    have A1 : Hid (At3 w1 w.heap.size b c r) := (At3.new _ _ _ _ _ _).below hb1
    have B1 : Hid (Below w.heap.size w w1) := (box_below _ _).trans (hb1.mono (box_below _ _).size)
    obtain ⟨p0, p1, p2⟩ := A1.out
    clear hb1 J
    go_wp2
    go_ret
    exact ⟨rfl, B1.out⟩

set_option maxHeartbeats 4000000 in
theorem acctBack_no (b c r n k : Int) (w : World) (hV : acctB b c r = true) (n0 : 0 ≤ n) (n1 : n ≤ 9223372036854775807) (k0 : 1 ≤ k) (k1 : k ≤ 3) (hB : balB (b + n) = false) :
    Calls Try.prog 4 #[.agg #[.int .i64 b, .int .i64 c, .int .i64 r], .int .i64 n, .int .i64 k] w fun e w' => e = .returned (.bool true) ∧ Below w.heap.size w w' := by
  have J := refAcctIs_any b c r
  have N1 : ∀ w, Calls Try.prog 10 #[.agg #[.int .i64 b, .int .i64 c, .int .i64 r], .int .i64 n] w (AccEnd w b c r 8) := fun w => by have := accIn_any b c r n hV (by omega) n1 w; rw [hB] at this; exact this
  rw [hV] at J
  clear hV n1 hB
  go_enter Try.func4, Try.ntmps4
  go_wp2_with fail
  go_at_call 7
  refine (J _).mono ?_
  rintro e w1 ⟨rfl, hb1⟩
  have A1 : Hid (At3 w1 w.heap.size b c r) := (At3.new _ _ _ _ _ _).below hb1
  have B1 : Hid (Below w.heap.size w w1) := (box_below _ _).trans (hb1.mono (box_below _ _).size)
  obtain ⟨p0, p1, p2⟩ := A1.out
  clear hb1 J
  go_wp2_with fail
  go_at_call 10
  refine (N1 _).mono ?_
  rintro e w2 ⟨rfl, hb2⟩
  have A2 : Hid (At3 (w2.alloc (.cells #[.int .i64 b, .int .i64 c, .int .i64 r] 23)) w.heap.size b c r) := (A1.out.below hb2).below (box_below _ _)
  have X2 : Hid (At3 (w2.alloc (.cells #[.int .i64 b, .int .i64 c, .int .i64 r] 23)) w2.heap.size b c r) := At3.new _ _ _ _ _ _
  have B2 : Hid (Below w.heap.size w (w2.alloc (.cells #[.int .i64 b, .int .i64 c, .int .i64 r] 23))) := (B1.out.trans (hb2.mono B1.out.size)).alloc (B1.out.trans (hb2.mono B1.out.size)).size _
  clear hb2 A1 B1 p0 p1 p2 N1
  obtain ⟨p0, p1, p2⟩ := A2.out
  go_wp2_with fail
  go_at_call 9
  refine (known9 _).mono ?_
  rintro e w4 ⟨rfl, hb4⟩
  have B4 : Hid (Below w.heap.size w w4) := B2.out.trans (hb4.mono B2.out.size)
  clear hb4 B2 A2 X2 p0 p1 p2
  go_wp2
  go_ret
  exact ⟨rfl, B4.out⟩

set_option maxHeartbeats 8000000 in
theorem acctBack_yes (b c r n k R : Int) (w : World) (hV : acctB b c r = true) (n0 : 0 ≤ n) (n1 : n ≤ 9223372036854775807) (hB : balB (b + n) = true) (hR : outR r n k = R)
    (H : (k = 3 ∧ r = R) ∨ ((k = 1 ∨ k = 2) ∧ n < r ∧ R = r - n) ∨ ((k = 1 ∨ k = 2) ∧ r ≤ n ∧ R = 0)) :
    Calls Try.prog 4 #[.agg #[.int .i64 b, .int .i64 c, .int .i64 r], .int .i64 n, .int .i64 k] w fun e w' => e = .returned (.bool true) ∧ Below w.heap.size w w' := by
  obtain ⟨b0, b1, c0, c1, r0, r1⟩ := acctB_yes.1 hV
  have J := refAcctIs_any b c r
  have N1 : ∀ w, Calls Try.prog 10 #[.agg #[.int .i64 b, .int .i64 c, .int .i64 r], .int .i64 n] w (AccEnd w (b + n) c r 0) := fun w => by have := accIn_any b c r n hV (by omega) n1 w; rw [hB] at this; exact this
  have hx : acctB (b + n) c r = true := by unfold acctB; rw [hB, (acctB_sets hV).1, (acctB_sets hV).2]; rfl
  have hb : balB (b + n - n) = true := by rw [Int.add_sub_cancel]; unfold balB; exact decide_eq_true ⟨b0, b1⟩
  have O1 : ∀ w, Calls Try.prog 12 #[.agg #[.int .i64 (b + n), .int .i64 c, .int .i64 r], .int .i64 n, .int .i64 k] w (AccEnd w b c R 0) := fun w => by
    have := accOut_any (b + n) c r n k hx n0 n1 w
    rw [hb, hR, Int.add_sub_cancel] at this
    exact this
  rw [hV] at J
  generalize b + n = x at N1 O1
  clear hV n1 hB hx hb hR b0 b1 c0 c1
  have k0 : 1 ≤ k := by omega
  have k1 : k ≤ 3 := by omega
  have R0 : 0 ≤ R := by omega
  have R1 : R ≤ r := by omega
  have HH : Hid ((k = 3 ∧ r = R) ∨ ((k = 1 ∨ k = 2) ∧ n < r ∧ R = r - n) ∨ ((k = 1 ∨ k = 2) ∧ r ≤ n ∧ R = 0)) := H
  clear H
  go_enter Try.func4, Try.ntmps4
  go_wp2_with fail
  go_at_call 7
  refine (J _).mono ?_
  rintro e w1 ⟨rfl, hb1⟩
  have A1 : Hid (At3 w1 w.heap.size b c r) := (At3.new _ _ _ _ _ _).below hb1
  have B1 : Hid (Below w.heap.size w w1) := (box_below _ _).trans (hb1.mono (box_below _ _).size)
  obtain ⟨p0, p1, p2⟩ := A1.out
  clear hb1 J
  go_wp2_with fail
  go_at_call 10
  refine (N1 _).mono ?_
  rintro e w2 ⟨rfl, hb2⟩
  have A2 : Hid (At3 (w2.alloc (.cells #[.int .i64 x, .int .i64 c, .int .i64 r] 23)) w.heap.size b c r) := (A1.out.below hb2).below (box_below _ _)
  have B2 : Hid (Below w.heap.size w (w2.alloc (.cells #[.int .i64 x, .int .i64 c, .int .i64 r] 23))) := (B1.out.trans (hb2.mono B1.out.size)).alloc (B1.out.trans (hb2.mono B1.out.size)).size _
  clear hb2 A1 B1 p0 p1 p2 N1
  go_wp2_with fail
  go_at_call 12
  refine (O1 _).mono ?_
  rintro e w3 ⟨rfl, hb3⟩
  have A3 : Hid (At3 (w3.alloc (.cells #[.int .i64 b, .int .i64 c, .int .i64 R] 23)) w.heap.size b c r) := (A2.out.below hb3).below (box_below w3 _)
  have B3 : Hid (Below w.heap.size w (w3.alloc (.cells #[.int .i64 b, .int .i64 c, .int .i64 R] 23))) := (B2.out.trans (hb3.mono B2.out.size)).alloc (B2.out.trans (hb3.mono B2.out.size)).size _
  clear hb3 A2 B2 O1
  obtain ⟨p0, p1, p2⟩ := A3.out
  obtain H := HH.out
  clear HH
  have H' : (k = 3 ∧ r = R) ∨ ((k = 1 ∨ k = 2) ∧ n < r ∧ R = r - n) ∨ ((k = 1 ∨ k = 2) ∧ r < n ∧ R = 0) ∨ ((k = 1 ∨ k = 2) ∧ n = r ∧ R = 0) := by omega
  clear H
  rcases H' with ⟨rfl, rfl⟩ | ⟨rfl | rfl, h1, rfl⟩ | ⟨rfl | rfl, h1, rfl⟩ | ⟨rfl | rfl, rfl, rfl⟩
  all_goals
    go_wp2_with fail
    go_at_call 9
    refine (known9 _).mono ?_
    rintro e w4 ⟨rfl, hb4⟩
    have B4 : Hid (Below w.heap.size w w4) := B3.out.trans (hb4.mono B3.out.size)
    clear hb4 B3 A3 p0 p1 p2
    go_wp2
    go_ret
    exact ⟨rfl, B4.out⟩

theorem acctBack (b c r a1 a2 : Int) (w : World) (w0 : (Lit.int .i64 b).wf = true ∧ (Lit.int .i64 c).wf = true ∧ (Lit.int .i64 r).wf = true) (w1 : (Lit.int .i64 a1).wf = true) (w2 : (Lit.int .i64 a2).wf = true) :
    Calls Try.prog 4 #[.agg #[.int .i64 b, .int .i64 c, .int .i64 r], .int .i64 a1, .int .i64 a2] w fun e w' => e = .returned (.bool true) ∧ Below w.heap.size w w' := by
  have h1 := wf_i64 (wf_i64' _ w1)
  cases hV : acctB b c r
  · exact acctBack_out b c r a1 a2 _ w hV (.inl rfl)
  · rcases Int.lt_or_le a1 0 with h | h
    · exact acctBack_out b c r a1 a2 _ w hV (.inr (.inl ⟨rfl, h⟩))
    · rcases Int.lt_or_le a2 1 with k | k
      · exact acctBack_out b c r a1 a2 _ w hV (.inr (.inr (.inl ⟨rfl, h, k⟩)))
      · rcases Int.lt_or_le 3 a2 with m | m
        · exact acctBack_out b c r a1 a2 _ w hV (.inr (.inr (.inr ⟨rfl, h, k, m⟩)))
        · cases hB : balB (b + a1)
          · exact acctBack_no b c r a1 a2 w hV h (by omega) k m hB
          · refine acctBack_yes b c r a1 a2 _ w hV h (by omega) hB rfl ?_
            by_cases h3 : a2 = 3
            · exact .inl ⟨h3, by simp [outR, h3]⟩
            · have hk : a2 = 1 ∨ a2 = 2 := by omega
              have e : outR r a1 a2 = keptV r a1 := if_pos hk
              rw [e]
              rcases Int.lt_or_le a1 r with o | o
              · exact .inr (.inl ⟨hk, o, (kept_some o).symm⟩)
              · exact .inr (.inr ⟨hk, o, (kept_none o).symm⟩)

end Walk
end Go.Proofs.Ytnmldnokoihajaa
