/-
  The walk of MostBounds.
-/
import Derived.Test.YtcdahjkngejkeaaMostBoundsA
import Derived.Test.YtcdahjkngejkeaaMostBoundsB
import Derived.Test.YtcdahjkngejkeaaMostBoundsC
import Derived.Test.YtcdahjkngejkeaaMostBoundsD
namespace Go.Proofs.Ytcdahjkngejkeaa
open Go.RowKit
set_option linter.unusedVariables false
set_option linter.unusedSimpArgs false
namespace Walk

set_option maxHeartbeats 8000000 in
theorem mostBounds_out (bal rs bil mul pos cl : Int) (w : World) (h : ¬ ((0 ≤ bal ∧ bal ≤ 1000) ∧ (0 ≤ rs ∧ rs ≤ 1000) ∧ ((-1) ≤ bil ∧ bil ≤ 1000) ∧ ((-1) ≤ mul ∧ mul ≤ 1000) ∧ ((-1000) ≤ pos ∧ pos ≤ 1000) ∧ (1 ≤ cl ∧ cl ≤ 3))) : Calls Try.prog 5 #[.int .i64 bal, .int .i64 rs, .int .i64 bil, .int .i64 mul, .int .i64 pos, .int .i64 cl] w fun e w' => e = .returned (.bool true) ∧ Below w.heap.size w w' := by
  rcases Int.lt_or_le bal 0 with x | x
  · clear h
    go_enter Try.func5, Try.ntmps5
    go_wp2
    go_ret
    exact ⟨rfl, Below.refl _ _⟩
  have bal1 : decide (bal < 0) = false := decide_eq_false (by omega)
  have bal2 : 0 ≤ bal := x
  clear x
  rcases Int.lt_or_le 1000 bal with x | x
  · clear h
    go_enter Try.func5, Try.ntmps5
    go_wp2
    go_ret
    exact ⟨rfl, Below.refl _ _⟩
  have bal3 : decide (1000 < bal) = false := decide_eq_false (by omega)
  have bal4 : bal ≤ 1000 := x
  clear x
  rcases Int.lt_or_le rs 0 with x | x
  · clear h
    go_enter Try.func5, Try.ntmps5
    go_wp2
    go_ret
    exact ⟨rfl, Below.refl _ _⟩
  have rs1 : decide (rs < 0) = false := decide_eq_false (by omega)
  have rs2 : 0 ≤ rs := x
  clear x
  rcases Int.lt_or_le 1000 rs with x | x
  · clear h
    go_enter Try.func5, Try.ntmps5
    go_wp2
    go_ret
    exact ⟨rfl, Below.refl _ _⟩
  have rs3 : decide (1000 < rs) = false := decide_eq_false (by omega)
  have rs4 : rs ≤ 1000 := x
  clear x
  rcases Int.lt_or_le bil (-1) with x | x
  · clear h
    go_enter Try.func5, Try.ntmps5
    go_wp2
    go_ret
    exact ⟨rfl, Below.refl _ _⟩
  have bil1 : decide (bil < (-1)) = false := decide_eq_false (by omega)
  have bil2 : (-1) ≤ bil := x
  clear x
  rcases Int.lt_or_le 1000 bil with x | x
  · clear h
    go_enter Try.func5, Try.ntmps5
    go_wp2
    go_ret
    exact ⟨rfl, Below.refl _ _⟩
  have bil3 : decide (1000 < bil) = false := decide_eq_false (by omega)
  have bil4 : bil ≤ 1000 := x
  clear x
  rcases Int.lt_or_le mul (-1) with x | x
  · clear h
    go_enter Try.func5, Try.ntmps5
    go_wp2
    go_ret
    exact ⟨rfl, Below.refl _ _⟩
  have mul1 : decide (mul < (-1)) = false := decide_eq_false (by omega)
  have mul2 : (-1) ≤ mul := x
  clear x
  rcases Int.lt_or_le 1000 mul with x | x
  · clear h
    go_enter Try.func5, Try.ntmps5
    go_wp2
    go_ret
    exact ⟨rfl, Below.refl _ _⟩
  have mul3 : decide (1000 < mul) = false := decide_eq_false (by omega)
  have mul4 : mul ≤ 1000 := x
  clear x
  rcases Int.lt_or_le pos (-1000) with x | x
  · clear h
    go_enter Try.func5, Try.ntmps5
    go_wp2
    go_ret
    exact ⟨rfl, Below.refl _ _⟩
  have pos1 : decide (pos < (-1000)) = false := decide_eq_false (by omega)
  have pos2 : (-1000) ≤ pos := x
  clear x
  rcases Int.lt_or_le 1000 pos with x | x
  · clear h
    go_enter Try.func5, Try.ntmps5
    go_wp2
    go_ret
    exact ⟨rfl, Below.refl _ _⟩
  have pos3 : decide (1000 < pos) = false := decide_eq_false (by omega)
  have pos4 : pos ≤ 1000 := x
  clear x
  rcases Int.lt_or_le cl 1 with x | x
  · clear h
    go_enter Try.func5, Try.ntmps5
    go_wp2
    go_ret
    exact ⟨rfl, Below.refl _ _⟩
  have cl1 : decide (cl < 1) = false := decide_eq_false (by omega)
  have cl2 : 1 ≤ cl := x
  clear x
  rcases Int.lt_or_le 3 cl with x | x
  · clear h
    go_enter Try.func5, Try.ntmps5
    go_wp2
    go_ret
    exact ⟨rfl, Below.refl _ _⟩
  have cl3 : decide (3 < cl) = false := decide_eq_false (by omega)
  have cl4 : cl ≤ 3 := x
  clear x
  exact absurd (by omega) h


theorem mostBounds (bal rs bil mul pos cl : Int) (w : World) (wf0 : (Lit.int .i64 bal).wf = true) (wf1 : (Lit.int .i64 rs).wf = true) (wf2 : (Lit.int .i64 bil).wf = true) (wf3 : (Lit.int .i64 mul).wf = true) (wf4 : (Lit.int .i64 pos).wf = true) (wf5 : (Lit.int .i64 cl).wf = true) : Calls Try.prog 5 #[.int .i64 bal, .int .i64 rs, .int .i64 bil, .int .i64 mul, .int .i64 pos, .int .i64 cl] w fun e w' => e = .returned (.bool true) ∧ Below w.heap.size w w' := by
  by_cases hin : (0 ≤ bal ∧ bal ≤ 1000) ∧ (0 ≤ rs ∧ rs ≤ 1000) ∧ ((-1) ≤ bil ∧ bil ≤ 1000) ∧ ((-1) ≤ mul ∧ mul ≤ 1000) ∧ ((-1000) ≤ pos ∧ pos ≤ 1000) ∧ (1 ≤ cl ∧ cl ≤ 3)
  case neg => exact mostBounds_out bal rs bil mul pos cl w hin
  rcases Int.lt_or_le bil 0 with h1 | h1
  · rcases Int.lt_or_le mul 0 with h2 | h2
    · exact mostBounds_a bal rs bil mul pos cl w hin ⟨h1, h2⟩
    · exact mostBounds_b bal rs bil mul pos cl w hin ⟨h1, h2⟩
  · rcases Int.lt_or_le mul 0 with h2 | h2
    · exact mostBounds_c bal rs bil mul pos cl w hin ⟨h1, h2⟩
    · exact mostBounds_d bal rs bil mul pos cl w hin ⟨h1, h2⟩

end Walk
end Go.Proofs.Ytcdahjkngejkeaa
