/-
  The walk of girolaw1.CashTells: it answers true whatever the arguments, and writes nothing that was there.
-/
import Derived.Test.YthkmjlbmefpaiaaProduct
namespace Go.Proofs.Ythkmjlbmefpaiaa
open Go.RowKit
set_option linter.unusedVariables false
namespace Walk

theorem i64_bounds {n : Int} (h : (Lit.int .i64 n).wf = true) : -9223372036854775808 ≤ n ∧ n ≤ 9223372036854775807 := by
  simp [Lit.wf, IntKind.min, IntKind.max, IntKind.signed, IntKind.bits] at h
  omega

set_option maxHeartbeats 2000000 in
theorem tells (a b cut : Int) (a0 : -9223372036854775808 ≤ a) (a1 : a ≤ 9223372036854775807) (b0 : -9223372036854775808 ≤ b) (b1 : b ≤ 9223372036854775807) (w : World) :
    Calls Try.prog 3 #[.int .i64 a, .int .i64 b, .int .i64 cut] w fun e w' => e = .returned (.bool true) ∧ Below w.heap.size w w' := by
  go_enter Try.func3, Try.ntmps3
  go_wp2_with fail
  refine (add_any a b a0 a1 b0 b1 _).mono ?_
  rintro e w1 ⟨rfl, bel1⟩
  have B1 : Hid (Below w.heap.size w w1) := bel1
  clear bel1
  go_wp2_with fail
  refine (refAdd_walk a b a0 a1 b0 b1 _).mono ?_
  rintro e w' ⟨rfl, rfl⟩
  go_wp2_with fail
  refine (less_any a cut a1 _).mono ?_
  rintro e w' ⟨rfl, n1, rfl⟩
  go_wp2_with fail
  refine (refLess_any a cut a1 _).mono ?_
  rintro e w' ⟨rfl, rfl⟩
  go_wp2_with fail
  refine (worth_any a b cut a1 b1 _).mono ?_
  rintro e w' ⟨rfl, n2, rfl⟩
  go_wp2_with fail
  refine (refWorth_any a b cut a1 b1 _).mono ?_
  rintro e w2 ⟨rfl, bel2⟩
  have B2 : Hid (Below w.heap.size w w2) := by
    have h := B1.out
    exact (below_drewN h _).trans (bel2.mono (by have := h.size; simpa using this))
  clear bel2 B1
  go_wp2_with (go_at_call 15; refine (known_any _).mono ?_; rintro e w3 ⟨rfl, bel3⟩)
  go_ret
  exact ⟨rfl, B2.out.trans (bel3.mono B2.out.size)⟩

theorem cashTells (a0 a1 a2 : Int) (w0 : (Lit.int .i64 a0).wf = true) (w1 : (Lit.int .i64 a1).wf = true) (w2 : (Lit.int .i64 a2).wf = true) (w : World) :
    Calls Try.prog 3 #[.int .i64 a0, .int .i64 a1, .int .i64 a2] w fun e w' => e = .returned (.bool true) ∧ Below w.heap.size w w' := by
  have h0 := i64_bounds w0
  have h1 := i64_bounds w1
  exact tells a0 a1 a2 h0.1 h0.2 h1.1 h1.2 w

end Walk
end Go.Proofs.Ythkmjlbmefpaiaa
