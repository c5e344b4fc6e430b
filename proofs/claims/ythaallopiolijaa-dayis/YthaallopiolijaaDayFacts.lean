/-
  Facts of day's callees, for regions that draw.
-/
import Derived.Test.YthaallopiolijaaDayRest
import Derived.Test.YthaallopiolijaaFacts2
namespace Go.Proofs.Ythaallopiolijaa
open Go.RowKit
set_option linter.unusedVariables false

theorem bool_fact {f : FuncId} {args : Array Value} {w : World} {b : Bool} (h : Calls Try.prog f args w fun e w' => e = .returned (.bool b) ∧ Below w.heap.size w w') :
    Calls Try.prog f args w fun e w' => ∃ v, e = .returned v ∧ Below w.heap.size w w' ∧ (Fact.is (.bool b)).1 w' v :=
  h.mono fun e w' ⟨h1, h2⟩ => ⟨_, h1, h2, rfl⟩
theorem int_fact {f : FuncId} {args : Array Value} {w : World} {n : Int} (h : Calls Try.prog f args w fun e w' => e = .returned (.int .i64 n) ∧ Below w.heap.size w w') :
    Calls Try.prog f args w fun e w' => ∃ v, e = .returned v ∧ Below w.heap.size w w' ∧ (Fact.is (.int .i64 n)).1 w' v :=
  h.mono fun e w' ⟨h1, h2⟩ => ⟨_, h1, h2, rfl⟩
theorem known_fact (w : World) : Calls Try.prog 10 #[] w fun e w' => ∃ v, e = .returned v ∧ Below w.heap.size w w' ∧ (Fact.is (.bool true)).1 w' v := bool_fact (known_any w)
theorem eq_bool {x y : Operand} {b : Bool} : ∀ w, (do eqGuard .eql 4 x y (.bool b) (.bool b); binOp .eql 4 (.bool b) (.bool b) : Sem Value).run Try.prog w = .ok (.bool true) w := by
  intro w; simp [eqGuard, go_sem]
theorem eq_num {x y : Operand} {n : Int} : ∀ w, (do eqGuard .eql 3 x y (.int .i64 n) (.int .i64 n); binOp .eql 3 (.int .i64 n) (.int .i64 n) : Sem Value).run Try.prog w = .ok (.bool true) w := by
  intro w; simp [eqGuard, go_sem]

end Go.Proofs.Ythaallopiolijaa
