/-
  The walk of PaySame.
-/
import Derived.Test.YtddikbkodinmiaaKnown11
import Derived.Test.YtddikbkodinmiaaPayRefSame
import Derived.Test.YtddikbkodinmiaaPayArg
namespace Go.Proofs.Ytddikbkodinmiaa
open Go.RowKit
set_option linter.unusedVariables false
set_option linter.unusedSimpArgs false
namespace Walk

theorem paySame_out (a0 : Option Addr) (l0 c0 : Nat) (a1 : Option Addr) (l1 c1 : Nat) (w : World) (h : 60 < l0 ∨ 60 < l1) : Calls Try.prog 5 #[.slice a0 l0 c0, .slice a1 l1 c1] w fun e w' => e = .returned (.bool true) ∧ Below w.heap.size w w' := by
  by_cases h0 : 60 < (l0 : Int)
  · go_enter Try.func5, Try.ntmps5
    go_wp2
    go_ret
    exact ⟨rfl, Below.refl _ _⟩
  · have h1 : 60 < (l1 : Int) := by omega
    clear h
    go_enter Try.func5, Try.ntmps5
    go_wp2
    go_ret
    exact ⟨rfl, Below.refl _ _⟩

set_option maxHeartbeats 4000000 in
theorem paySame_in (a0 : Option Addr) (l0 c0 : Nat) (L0 : List P7) (a1 : Option Addr) (l1 c1 : Nat) (L1 : List P7) (w : World) (h0 : Pays w a0 l0 L0) (h1 : Pays w a1 l1 L1) (k0 : l0 ≤ 60) (k1 : l1 ≤ 60) : Calls Try.prog 5 #[.slice a0 l0 c0, .slice a1 l1 c1] w fun e w' => e = .returned (.bool true) ∧ Below w.heap.size w w' := by
  have S1 := (paySame_any a0 a1 l0 l1 c0 c1 L0 L1 w h0 h1 (by omega)).mono fun e w' h => drewN_below h
  have S2 := fun w' (hb : Below w.heap.size w w') => (refPaySame_any a0 a1 l0 l1 c0 c1 L0 L1 w' (h0.below hb) (h1.below hb) (by omega)).mono fun e w' h => drewN_below h
  have S3 := fun w' (hb : Below w.heap.size w w') => (paySame_any a0 a0 l0 l0 c0 c0 L0 L0 w' (h0.below hb) (h0.below hb) (by omega)).mono fun e w' h => drewN_below h
  rw [eqP_yes rfl] at S3
  generalize eqP L0 L1 = q at S1 S2
  have j0 : (l0 : Int) ≤ 60 := by omega
  have j1 : (l1 : Int) ≤ 60 := by omega
  clear h0 h1 k0 k1
  go_enter Try.func5, Try.ntmps5
  go_wp2_with fail
  go_at_call 15
  refine S1.mono ?_
  rintro e w1 ⟨rfl, b1⟩
  have T2 := S2 w1 b1
  have B1 : Hid (Below w.heap.size w w1) := b1
  clear S1 S2 b1
  go_wp2_with fail
  go_at_call 16
  refine T2.mono ?_
  rintro e w2 ⟨rfl, b2⟩
  have B2 : Hid (Below w.heap.size w w2) := B1.out.trans (b2.mono B1.out.size)
  have T3 := S3 w2 B2.out
  clear T2 S3 b2
  cases q
  all_goals
    go_wp2_with fail
    go_at_call 15
    refine T3.mono ?_
    rintro e w3 ⟨rfl, b3⟩
    have B3 : Hid (Below w.heap.size w w3) := B2.out.trans (b3.mono B2.out.size)
    clear T3 b3
    go_wp2_with fail
    go_at_call 14
    refine (known11 _).mono ?_
    rintro e w9 ⟨rfl, hb9⟩
    have B9 : Hid (Below w.heap.size w w9) := B3.out.trans (hb9.mono B3.out.size)
    clear hb9
    go_wp2
    go_ret
    exact ⟨rfl, B9.out⟩

theorem paySame (a0 : Option Addr) (l0 c0 : Nat) (L0 : List P7) (a1 : Option Addr) (l1 c1 : Nat) (L1 : List P7) (w : World) (h0 : PaysIn w a0 l0 c0 L0) (h1 : PaysIn w a1 l1 c1 L1) : Calls Try.prog 5 #[.slice a0 l0 c0, .slice a1 l1 c1] w fun e w' => e = .returned (.bool true) ∧ Below w.heap.size w w' := by
  by_cases h : 60 < l0 ∨ 60 < l1
  · exact paySame_out a0 l0 c0 a1 l1 c1 w h
  · exact paySame_in a0 l0 c0 L0 a1 l1 c1 L1 w h0.1 h1.1 (by omega) (by omega)

end Walk
end Go.Proofs.Ytddikbkodinmiaa
