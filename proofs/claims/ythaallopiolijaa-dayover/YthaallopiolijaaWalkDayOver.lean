/-
  The walk of DayOver.
-/
import Derived.Test.YthaallopiolijaaDayRest
import Derived.Test.YthaallopiolijaaRulArg
namespace Go.Proofs.Ythaallopiolijaa
open Go.RowKit
set_option linter.unusedVariables false
set_option linter.unusedSimpArgs false
namespace Walk

theorem end_is {cl m : Int} : endS cl (cl + m) = (m == 0) := by
  unfold endS
  rw [Bool.eq_iff_iff]
  simp
  omega

set_option maxHeartbeats 4000000 in
theorem dayOver_in (p : Int) (a : Option Addr) (len cap : Nat) (P C : Nat → Int) (cut cl per m c : Int) (w : World) (h : Asts w a len P C) (hl : len ≤ 20) : Calls Try.prog 5 #[.agg #[.int .i64 p, .slice a len cap, .int .i64 cut, .int .i64 cl, .int .i64 per], .int .i64 m, .int .i64 c] w fun e w' => e = .returned (.bool true) ∧ Below w.heap.size w w' := by
  have hgt : (len : Int) ≤ 20 := by omega
  have B0 : Hid (Below w.heap.size w (w.alloc (.cells #[.int .i64 p, .slice a len cap, .int .i64 cut, .int .i64 cl, .int .i64 per] 24))) := box_below _ _
  have JY := refIs_any p a len cap P C cut cl per _ (h.below B0.out) (by omega)
  have R0 : Hid (RulAt (w.alloc (.cells #[.int .i64 p, .slice a len cap, .int .i64 cut, .int .i64 cl, .int .i64 per] 24)) w.heap.size p a len cap cut cl per) := rul_new _ _ _ _ _ _ _ _ _ _
  obtain ⟨V, hV⟩ : ∃ V, rulS p len P C cut cl per = V := ⟨_, rfl⟩
  rw [hV] at JY
  have HV : Hid (rulS p len P C cut cl per = V) := hV
  obtain ⟨g, hg⟩ : ∃ g, w.heap.size = g := ⟨_, rfl⟩
  rw [hg] at R0
  have HG : Hid (w.heap.size = g) := hg
  clear hg h hV
  go_enter Try.func5, Try.ntmps5
  go_wp2_with fail
  go_at_call 9
  refine JY.mono ?_
  rintro e w1 ⟨rfl, hb1⟩
  have B1 : Hid (Below w.heap.size w w1) := B0.out.trans (hb1.mono B0.out.size)
  have R : Hid (RulAt w1 g p a len cap cut cl per) := R0.out.below hb1
  rw [HG.out]
  clear JY hb1 R0 B0
  cases V
  · go_wp2
    go_ret
    exact ⟨rfl, B1.out⟩
  have hcl : 1 ≤ cl ∧ cl ≤ 1048576 := by
    have := HV.out
    simp only [rulS, inB, Bool.and_eq_true, decide_eq_true_iff] at this
    omega
  obtain ⟨hc1, hc2⟩ := hcl
  clear HV
  rcases Int.lt_or_le m 0 with h0 | h0
  · go_wp2
    go_ret
    exact ⟨rfl, B1.out⟩
  rcases Int.lt_or_le 1099511627776 m with h1 | h1
  · go_wp2
    go_ret
    exact ⟨rfl, B1.out⟩
  obtain ⟨p0, p1, p2, p3, p4⟩ := R.out
  have M1 := may_any p a len cap cut cl per (cl + m) c
  rw [← may_end (show cl ≤ cl + m by omega)] at M1
  have S1 := solves_any p a len cap cut cl per (cl + m)
  rw [← sol_end (show cl ≤ cl + m by omega)] at S1
  have C1 := closes_any p a len cap cut cl per (cl + m)
  rw [end_is] at C1
  go_wp2_with fail
  go_at_call 11
  refine (M1 _).mono ?_
  rintro e w2 ⟨rfl, hb2⟩
  have B2 : Hid (Below w.heap.size w w2) := B1.out.trans (hb2.mono B1.out.size)
  have R2 : Hid (RulAt w2 g p a len cap cut cl per) := R.out.below hb2
  obtain ⟨q0, q1, q2, q3, q4⟩ := R2.out
  clear M1 hb2 p0 p1 p2 p3 p4
  go_wp2_with fail
  go_at_call 13
  refine (S1 _).mono ?_
  rintro e w3 ⟨rfl, hb3⟩
  have B3 : Hid (Below w.heap.size w w3) := B2.out.trans (hb3.mono B2.out.size)
  have R3 : Hid (RulAt w3 g p a len cap cut cl per) := R2.out.below hb3
  obtain ⟨r0, r1, r2, r3, r4⟩ := R3.out
  clear S1 hb3 q0 q1 q2 q3 q4
  go_wp2_with fail
  go_at_call 15
  refine (C1 _).mono ?_
  rintro e w4 ⟨rfl, hb4⟩
  have B4 : Hid (Below w.heap.size w w4) := B3.out.trans (hb4.mono B3.out.size)
  clear C1 hb4 r0 r1 r2 r3 r4
  go_wp2_with fail
  go_at_call 10
  refine (known_any _).mono ?_
  rintro e w5 ⟨rfl, hb5⟩
  have B5 : Hid (Below w.heap.size w w5) := B4.out.trans (hb5.mono B4.out.size)
  go_wp2
  go_ret
  exact ⟨rfl, B5.out⟩

theorem dayOver_out (p : Int) (a : Option Addr) (len cap : Nat) (cut cl per t c : Int) (w : World) (h : 20 < (len : Int)) : Calls Try.prog 5 #[.agg #[.int .i64 p, .slice a len cap, .int .i64 cut, .int .i64 cl, .int .i64 per], .int .i64 t, .int .i64 c] w fun e w' => e = .returned (.bool true) ∧ Below w.heap.size w w' := by
  go_enter Try.func5, Try.ntmps5
  go_wp2
  go_ret
  exact ⟨rfl, box_below _ _⟩

theorem dayOver (p0 : Int) (a0 : Option Addr) (len0 cap0 : Nat) (P C : Nat → Int) (cut cl per : Int) (a1 a2 : Int) (w : World) (h : Asts w a0 len0 P C) (w1 : (Lit.int .i64 a1).wf = true) (w2 : (Lit.int .i64 a2).wf = true) : Calls Try.prog 5 #[.agg #[.int .i64 p0, .slice a0 len0 cap0, .int .i64 cut, .int .i64 cl, .int .i64 per], .int .i64 a1, .int .i64 a2] w fun e w' => e = .returned (.bool true) ∧ Below w.heap.size w w' := by
  by_cases hl : len0 ≤ 20
  · exact dayOver_in p0 a0 len0 cap0 P C cut cl per a1 a2 w h hl
  · exact dayOver_out p0 a0 len0 cap0 cut cl per a1 a2 w (by omega)

end Walk
end Go.Proofs.Ythaallopiolijaa
