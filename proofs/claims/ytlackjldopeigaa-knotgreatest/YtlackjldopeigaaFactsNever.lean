/-
  Regions that draw their order (Facts): operations that their guard passes over, and those that hang on them.
-/
import Derived.Test.YtlackjldopeigaaRowBase
namespace Go.Proofs.Ytlackjldopeigaa
open Go.RowKit
set_option linter.unusedVariables false

section
variable {P : Program} {Q : Exit → Act → World → Prop} {L : List Fact} {T : List Nat} {a0 : Act} {w0 : World} {i : Nat} {o : Oper}
def notB (b : Bool) : Value → Bool
  | .bool c => c != b
  | _ => true
/-- What its guard passes over. -/
theorem owes_never (j : Nat) (b : Bool) (x : Value) (hg : o.guard = some (j, b)) (hd : (o.after.toList.any fun e => e.on == j && Region.binds .any e) = true) (hLj : L.getD j Fact.any = Fact.is x) (hx : notB b x = true) (hL : L.getD i Fact.any = Fact.is undef) : OwesT P Q L T a0 w0 i o := by
  intro a w h1 h2 h3
  have hv := h3 j hd
  rw [hLj] at hv
  have hv : a.tmps.getD (T.getD j 0) undef = x := hv
  refine .inr ⟨⟨(j, b), hg, ?_⟩, ?_⟩
  · rw [hv]
    intro hh
    rw [hh] at hx
    simp [notB] at hx
  · rw [hL]
    rfl
end

end Go.Proofs.Ytlackjldopeigaa
