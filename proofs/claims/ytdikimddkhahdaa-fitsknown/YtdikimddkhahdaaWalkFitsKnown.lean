/-
  The walk of FitsKnown.
-/
import Derived.Test.YtdikimddkhahdaaWalkFitsKnown0
import Derived.Test.YtdikimddkhahdaaWalkFitsKnown1
import Derived.Test.YtdikimddkhahdaaWalkFitsKnown2
import Derived.Test.YtdikimddkhahdaaWalkFitsKnown3
import Derived.Test.YtdikimddkhahdaaRowBase
namespace Go.Proofs.Ytdikimddkhahdaa
open Go.RowKit
set_option linter.unusedVariables false
set_option linter.unusedSimpArgs false

namespace Walk

set_option maxHeartbeats 8000000 in
set_option maxRecDepth 100000 in
theorem fitsKnown_rest (way : Int) (w : World) (h0 : ¬ way = 0) (h1 : ¬ way = 1) (h2 : ¬ way = 2) (h3 : ¬ way = 3) : Calls Try.prog 8 #[.int .i64 way] w fun e w' => e = .returned (.bool true) ∧ Below w.heap.size w w' := by
  have S := some_zero [10, 10, 0] 0 (some ⟨w.heap.size, 0, none⟩) 3 3 (w.alloc (.cells #[.int .i64 10, .int .i64 10, .int .i64 0] 2)) (Sl.new .i64 w 2 (0, 0) [10, 10, 0] (by decide)) (by omega) (by decide) (by decide) (by decide)
  have e0 : (way == 0) = false := by simpa using h0
  have e1 : (way == 1) = false := by simpa using h1
  have e2 : (way == 2) = false := by simpa using h2
  have e3 : (way == 3) = false := by simpa using h3
  go_enter Try.func8, Try.ntmps8
  go_wp2_with fail
  go_at_call 19
  refine S.mono ?_
  rintro e w1 ⟨g, vc, he, lay, bel⟩
  have B1 : Hid (Below w.heap.size w w1) := (box_below _ _).trans (bel.mono (by rw [size_alloc]; omega))
  obtain ⟨ba, hba⟩ : ∃ ba : BA, ba = ba3 (w.alloc (.cells #[.int .i64 10, .int .i64 10, .int .i64 0] 2)).heap.size g vc := ⟨_, rfl⟩
  rw [← hba] at he
  obtain ⟨aA, nA, cA, aB, nB, cB, aM, nM, cM, aP, nP, cP⟩ := ba
  have he : e = .returned (.agg #[.slice aA nA cA, .slice aB nB cB, .slice aM nM cM, .slice aP nP cP]) := he
  subst he
  clear S lay bel hba
  go_wp2_with fail
  go_at_call 23
  refine (func3_any _).mono ?_
  rintro e w3 ⟨f, rfl, hf, hp, hb⟩
  have B3 : Hid (Below w.heap.size w w3) := (B1.out.alloc B1.out.size _).trans (hb.mono (by rw [size_alloc]; have := B1.out.size; omega))
  clear hf hp hb
  go_wp2
  go_ret
  exact ⟨rfl, B3.out⟩

theorem fitsKnown (way : Int) (w : World) (hway : (Lit.int .i64 way).wf = true) : Calls Try.prog 8 #[.int .i64 way] w fun e w' => e = .returned (.bool true) ∧ Below w.heap.size w w' := by
  by_cases h0 : way = 0
  · subst h0; exact fitsKnown0 w
  by_cases h1 : way = 1
  · subst h1; exact fitsKnown1 w
  by_cases h2 : way = 2
  · subst h2; exact fitsKnown2 w
  by_cases h3 : way = 3
  · subst h3; exact fitsKnown3 w
  exact fitsKnown_rest way w h0 h1 h2 h3

end Walk
end Go.Proofs.Ytdikimddkhahdaa
