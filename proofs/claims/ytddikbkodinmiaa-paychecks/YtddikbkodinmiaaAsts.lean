/-
  A slice of assets: what a walk is told of it.
-/
import Derived.Test.YtddikbkodinmiaaNew
namespace Go.Proofs.Ytddikbkodinmiaa
open Go.RowKit
set_option linter.unusedVariables false

/-- A slice of assets: their prices and their cuts. -/
def Asts (w : World) (a : Option Addr) (len : Nat) (P C : Nat → Int) : Prop :=
  len = 0 ∨ ∃ b off, a = some ⟨b, off, none⟩ ∧ b < w.heap.size ∧ ∀ r, r < len → w.cell? ⟨b, off + r * 2, none⟩ = some (.int .i64 (P r)) ∧ w.cell? ⟨b, off + r * 2 + 1, none⟩ = some (.int .i64 (C r))

theorem Asts.below {w w' : World} {a : Option Addr} {len : Nat} {P C : Nat → Int} (h : Asts w a len P C) (hb : Below w.heap.size w w') : Asts w' a len P C := by
  rcases h with h | ⟨b, off, ha, hlt, hc⟩
  · exact .inl h
  · refine .inr ⟨b, off, ha, Nat.lt_of_lt_of_le hlt hb.size, fun r hr => ?_⟩
    rw [hb.cell (p := ⟨b, off + r * 2, none⟩) hlt, hb.cell (p := ⟨b, off + r * 2 + 1, none⟩) hlt]
    exact hc r hr

end Go.Proofs.Ytddikbkodinmiaa
