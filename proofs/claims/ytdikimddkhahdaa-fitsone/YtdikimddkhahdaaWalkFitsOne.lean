/-
  The walk of FitsOne.
-/
import Derived.Test.YtdikimddkhahdaaFitsOneA
import Derived.Test.YtdikimddkhahdaaFitsOneB
import Derived.Test.YtdikimddkhahdaaFitsOnePure
import Derived.Test.YtdikimddkhahdaaKnown15
import Derived.Test.YtdikimddkhahdaaRowBase
import Derived.Deep.CutRange
namespace Go.Proofs.Ytdikimddkhahdaa
open Go.RowKit
set_option linter.unusedVariables false
set_option linter.unusedSimpArgs false
namespace Walk

set_option maxHeartbeats 8000000 in
theorem fitsOne_out (bal cr rs bil mul pos am cl : Int) (w : World) (h : ¬ ((0 ≤ bal ∧ bal ≤ 1000) ∧ (0 ≤ cr ∧ cr ≤ 1000) ∧ (0 ≤ rs ∧ rs ≤ 1000) ∧ ((-1) ≤ bil ∧ bil ≤ 1000) ∧ ((-1) ≤ mul ∧ mul ≤ 1000) ∧ ((-1000) ≤ pos ∧ pos ≤ 1000) ∧ (1 ≤ am ∧ am ≤ 2000) ∧ (1 ≤ cl ∧ cl ≤ 3))) : Calls Try.prog 7 #[.int .i64 bal, .int .i64 cr, .int .i64 rs, .int .i64 bil, .int .i64 mul, .int .i64 pos, .int .i64 am, .int .i64 cl] w fun e w' => e = .returned (.bool true) ∧ Below w.heap.size w w' := by
  rcases Int.lt_or_le bal 0 with x | x
  · clear h
    go_enter Try.func7, Try.ntmps7
    go_wp2
    go_ret
    exact ⟨rfl, Below.refl _ _⟩
  have bal1 : decide (bal < 0) = false := decide_eq_false (by omega)
  have bal2 : 0 ≤ bal := x
  clear x
  rcases Int.lt_or_le 1000 bal with x | x
  · clear h
    go_enter Try.func7, Try.ntmps7
    go_wp2
    go_ret
    exact ⟨rfl, Below.refl _ _⟩
  have bal3 : decide (1000 < bal) = false := decide_eq_false (by omega)
  have bal4 : bal ≤ 1000 := x
  clear x
  rcases Int.lt_or_le cr 0 with x | x
  · clear h
    go_enter Try.func7, Try.ntmps7
    go_wp2
    go_ret
    exact ⟨rfl, Below.refl _ _⟩
  have cr1 : decide (cr < 0) = false := decide_eq_false (by omega)
  have cr2 : 0 ≤ cr := x
  clear x
  rcases Int.lt_or_le 1000 cr with x | x
  · clear h
    go_enter Try.func7, Try.ntmps7
    go_wp2
    go_ret
    exact ⟨rfl, Below.refl _ _⟩
  have cr3 : decide (1000 < cr) = false := decide_eq_false (by omega)
  have cr4 : cr ≤ 1000 := x
  clear x
  rcases Int.lt_or_le rs 0 with x | x
  · clear h
    go_enter Try.func7, Try.ntmps7
    go_wp2
    go_ret
    exact ⟨rfl, Below.refl _ _⟩
  have rs1 : decide (rs < 0) = false := decide_eq_false (by omega)
  have rs2 : 0 ≤ rs := x
  clear x
  rcases Int.lt_or_le 1000 rs with x | x
  · clear h
    go_enter Try.func7, Try.ntmps7
    go_wp2
    go_ret
    exact ⟨rfl, Below.refl _ _⟩
  have rs3 : decide (1000 < rs) = false := decide_eq_false (by omega)
  have rs4 : rs ≤ 1000 := x
  clear x
  rcases Int.lt_or_le bil (-1) with x | x
  · clear h
    go_enter Try.func7, Try.ntmps7
    go_wp2
    go_ret
    exact ⟨rfl, Below.refl _ _⟩
  have bil1 : decide (bil < (-1)) = false := decide_eq_false (by omega)
  have bil2 : (-1) ≤ bil := x
  clear x
  rcases Int.lt_or_le 1000 bil with x | x
  · clear h
    go_enter Try.func7, Try.ntmps7
    go_wp2
    go_ret
    exact ⟨rfl, Below.refl _ _⟩
  have bil3 : decide (1000 < bil) = false := decide_eq_false (by omega)
  have bil4 : bil ≤ 1000 := x
  clear x
  rcases Int.lt_or_le mul (-1) with x | x
  · clear h
    go_enter Try.func7, Try.ntmps7
    go_wp2
    go_ret
    exact ⟨rfl, Below.refl _ _⟩
  have mul1 : decide (mul < (-1)) = false := decide_eq_false (by omega)
  have mul2 : (-1) ≤ mul := x
  clear x
  rcases Int.lt_or_le 1000 mul with x | x
  · clear h
    go_enter Try.func7, Try.ntmps7
    go_wp2
    go_ret
    exact ⟨rfl, Below.refl _ _⟩
  have mul3 : decide (1000 < mul) = false := decide_eq_false (by omega)
  have mul4 : mul ≤ 1000 := x
  clear x
  rcases Int.lt_or_le pos (-1000) with x | x
  · clear h
    go_enter Try.func7, Try.ntmps7
    go_wp2
    go_ret
    exact ⟨rfl, Below.refl _ _⟩
  have pos1 : decide (pos < (-1000)) = false := decide_eq_false (by omega)
  have pos2 : (-1000) ≤ pos := x
  clear x
  rcases Int.lt_or_le 1000 pos with x | x
  · clear h
    go_enter Try.func7, Try.ntmps7
    go_wp2
    go_ret
    exact ⟨rfl, Below.refl _ _⟩
  have pos3 : decide (1000 < pos) = false := decide_eq_false (by omega)
  have pos4 : pos ≤ 1000 := x
  clear x
  rcases Int.lt_or_le am 1 with x | x
  · clear h
    go_enter Try.func7, Try.ntmps7
    go_wp2
    go_ret
    exact ⟨rfl, Below.refl _ _⟩
  have am1 : decide (am < 1) = false := decide_eq_false (by omega)
  have am2 : 1 ≤ am := x
  clear x
  rcases Int.lt_or_le 2000 am with x | x
  · clear h
    go_enter Try.func7, Try.ntmps7
    go_wp2
    go_ret
    exact ⟨rfl, Below.refl _ _⟩
  have am3 : decide (2000 < am) = false := decide_eq_false (by omega)
  have am4 : am ≤ 2000 := x
  clear x
  rcases Int.lt_or_le cl 1 with x | x
  · clear h
    go_enter Try.func7, Try.ntmps7
    go_wp2
    go_ret
    exact ⟨rfl, Below.refl _ _⟩
  have cl1 : decide (cl < 1) = false := decide_eq_false (by omega)
  have cl2 : 1 ≤ cl := x
  clear x
  rcases Int.lt_or_le 3 cl with x | x
  · clear h
    go_enter Try.func7, Try.ntmps7
    go_wp2
    go_ret
    exact ⟨rfl, Below.refl _ _⟩
  have cl3 : decide (3 < cl) = false := decide_eq_false (by omega)
  have cl4 : cl ≤ 3 := x
  clear x
  exact absurd (by omega) h

theorem fitsOne (bal cr rs bil mul pos am cl : Int) (w : World) (wf0 : (Lit.int .i64 bal).wf = true) (wf1 : (Lit.int .i64 cr).wf = true) (wf2 : (Lit.int .i64 rs).wf = true) (wf3 : (Lit.int .i64 bil).wf = true) (wf4 : (Lit.int .i64 mul).wf = true) (wf5 : (Lit.int .i64 pos).wf = true) (wf6 : (Lit.int .i64 am).wf = true) (wf7 : (Lit.int .i64 cl).wf = true) : Calls Try.prog 7 #[.int .i64 bal, .int .i64 cr, .int .i64 rs, .int .i64 bil, .int .i64 mul, .int .i64 pos, .int .i64 am, .int .i64 cl] w fun e w' => e = .returned (.bool true) ∧ Below w.heap.size w w' := by
  by_cases hin : (0 ≤ bal ∧ bal ≤ 1000) ∧ (0 ≤ cr ∧ cr ≤ 1000) ∧ (0 ≤ rs ∧ rs ≤ 1000) ∧ ((-1) ≤ bil ∧ bil ≤ 1000) ∧ ((-1) ≤ mul ∧ mul ≤ 1000) ∧ ((-1000) ≤ pos ∧ pos ≤ 1000) ∧ (1 ≤ am ∧ am ≤ 2000) ∧ (1 ≤ cl ∧ cl ≤ 3)
  case neg => exact fitsOne_out bal cr rs bil mul pos am cl w hin
  by_cases h : am ≤ roomV bal cr rs cl ∧ 0 ≤ bil
  · exact fitsOne_b bal cr rs bil mul pos am cl w hin h
  · exact fitsOne_a bal cr rs bil mul pos am cl w hin (fun h1 => by omega)

end Walk
end Go.Proofs.Ytdikimddkhahdaa
