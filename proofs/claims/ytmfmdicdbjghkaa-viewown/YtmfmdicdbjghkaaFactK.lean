/-
  Facts of callees and of comparisons, for regions that draw their order.
-/
import Derived.Test.YtmfmdicdbjghkaaFacts3
namespace Go.Proofs.Ytmfmdicdbjghkaa
open Go.RowKit
set_option linter.unusedVariables false

theorem is_fact {f : FuncId} {args : Array Value} {w : World} {v0 : Value} (h : Calls Try.prog f args w fun e w' => e = .returned v0 ∧ Below w.heap.size w w') :
    Calls Try.prog f args w fun e w' => ∃ v, e = .returned v ∧ Below w.heap.size w w' ∧ (Fact.is v0).1 w' v :=
  h.mono fun e w' ⟨h1, h2⟩ => ⟨_, h1, h2, rfl⟩
theorem bool_fact {f : FuncId} {args : Array Value} {w : World} {b : Bool} (h : Calls Try.prog f args w fun e w' => e = .returned (.bool b) ∧ Below w.heap.size w w') :
    Calls Try.prog f args w fun e w' => ∃ v, e = .returned v ∧ Below w.heap.size w w' ∧ (Fact.is (.bool b)).1 w' v := is_fact h
theorem int_fact {f : FuncId} {args : Array Value} {w : World} {n : Int} (h : Calls Try.prog f args w fun e w' => e = .returned (.int .i64 n) ∧ Below w.heap.size w w') :
    Calls Try.prog f args w fun e w' => ∃ v, e = .returned v ∧ Below w.heap.size w w' ∧ (Fact.is (.int .i64 n)).1 w' v := is_fact h
theorem eq_bool {x y : Operand} {b : Bool} : ∀ w, (do eqGuard .eql 4 x y (.bool b) (.bool b); binOp .eql 4 (.bool b) (.bool b) : Sem Value).run Try.prog w = .ok (.bool true) w := by
  intro w; simp [eqGuard, go_sem]
theorem eq_num {x y : Operand} {n : Int} : ∀ w, (do eqGuard .eql 3 x y (.int .i64 n) (.int .i64 n); binOp .eql 3 (.int .i64 n) (.int .i64 n) : Sem Value).run Try.prog w = .ok (.bool true) w := by
  intro w; simp [eqGuard, go_sem]
theorem eq_i64 {x y : Operand} {n : Int} : ∀ w, (do eqGuard .eql 2 x y (.int .i64 n) (.int .i64 n); binOp .eql 2 (.int .i64 n) (.int .i64 n) : Sem Value).run Try.prog w = .ok (.bool true) w := by
  intro w; simp [eqGuard, go_sem]
theorem eq_str {x y : Operand} {s : ByteArray} : ∀ w, (do eqGuard .eql 9 x y (.string s) (.string s); binOp .eql 9 (.string s) (.string s) : Sem Value).run Try.prog w = .ok (.bool true) w := by
  intro w; simp [eqGuard, go_sem]

end Go.Proofs.Ytmfmdicdbjghkaa
