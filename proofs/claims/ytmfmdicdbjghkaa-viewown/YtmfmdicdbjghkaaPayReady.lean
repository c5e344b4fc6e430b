/-
  pay: is a payment ready? the program's answer and the document's.
-/
import Derived.Test.YtmfmdicdbjghkaaPay7
namespace Go.Proofs.Ytmfmdicdbjghkaa
open Go.RowKit
set_option linter.unusedVariables false
set_option linter.unusedSimpArgs false

/-- Is it ready at a tick? -/
def readyB (s u t : Int) : Bool := decide (s ≤ t ∧ t ≤ u)
theorem readyB_no {s u t : Int} (h : t < s) : false = readyB s u t := by unfold readyB; symm; rw [decide_eq_false_iff_not]; omega
theorem readyB_rest {s u t : Int} (h : s ≤ t) : decide (t ≤ u) = readyB s u t := by simp [readyB, h]

theorem ready_any (i f o m c s u t : Int) (w : World) :
    Calls Try.prog 24 #[.agg #[.int .i64 i, .int .i64 f, .int .i64 o, .int .i64 m, .int .i64 c, .int .i64 s, .int .i64 u], .int .i64 t] w fun e w' => e = .returned (.bool (readyB s u t)) ∧ Below w.heap.size w w' := by
  rcases Int.lt_or_le t s with h | h
  · go_enter Try.func24, Try.ntmps24
    go_wp2
    go_ret
    exact ⟨rt_bool (readyB_no h), box_below _ _⟩
  · go_enter Try.func24, Try.ntmps24
    go_wp2
    go_ret
    exact ⟨rt_bool (readyB_rest h), box_below _ _⟩

theorem refReady_any (i f o m c s u t : Int) (w : World) :
    Calls Try.prog 19 #[.agg #[.int .i64 i, .int .i64 f, .int .i64 o, .int .i64 m, .int .i64 c, .int .i64 s, .int .i64 u], .int .i64 t] w fun e w' => e = .returned (.bool (readyB s u t)) ∧ Below w.heap.size w w' := by
  rcases Int.lt_or_le t s with h | h
  · go_enter Try.func19, Try.ntmps19
    go_wp2
    go_ret
    exact ⟨rt_bool (readyB_no h), box_below _ _⟩
  · go_enter Try.func19, Try.ntmps19
    go_wp2
    go_ret
    exact ⟨rt_bool (readyB_rest h), box_below _ _⟩

end Go.Proofs.Ytmfmdicdbjghkaa
