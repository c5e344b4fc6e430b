/-
  giroref11.Same on rows of payments in full; literals of payments.
-/
import Derived.Test.YtmfmdicdbjghkaaPayRefSame
import Derived.Test.YtmfmdicdbjghkaaPFacts
namespace Go.Proofs.Ytmfmdicdbjghkaa
open Go.RowKit
set_option linter.unusedVariables false
set_option linter.unusedSimpArgs false

theorem same_good (a1 a2 : Option Addr) (n1 n2 c1 c2 : Nat) (L M : List P7) (u : World) (g1 : PGood u a1 n1 c1 L) (g2 : PGood u a2 n2 c2 M) :
    Calls Try.prog 8 #[.slice a1 n1 c1, .slice a2 n2 c2] u fun e w' => e = .returned (.bool (eqP L M)) ∧ Below u.heap.size u w' :=
  (refPaySame_any a1 a2 n1 n2 c1 c2 L M u g1.pays g2.pays (by have := g1.cap; have := g1.max; omega)).mono fun e w' h => drewN_below h
theorem same_true (a1 a2 : Option Addr) (n1 n2 c1 c2 : Nat) (L : List P7) (u : World) (g1 : PGood u a1 n1 c1 L) (g2 : PGood u a2 n2 c2 L) :
    Calls Try.prog 8 #[.slice a1 n1 c1, .slice a2 n2 c2] u fun e w' => e = .returned (.bool true) ∧ Below u.heap.size u w' := by
  have := same_good a1 a2 n1 n2 c1 c2 L L u g1 g2
  rw [eqP_yes rfl] at this
  exact this
theorem PGood.lit2 (w : World) (p r : P7) : PGood (w.alloc (.cells #[.int .i64 p.id, .int .i64 p.fr, .int .i64 p.to, .int .i64 p.am, .int .i64 p.cl, .int .i64 p.st, .int .i64 p.ti, .int .i64 r.id, .int .i64 r.fr, .int .i64 r.to, .int .i64 r.am, .int .i64 r.cl, .int .i64 r.st, .int .i64 r.ti] 34)) (some ⟨w.heap.size, 0, none⟩) 2 2 [p, r] :=
  ⟨⟨rfl, .inr ⟨w.heap.size, 0, rfl, fun i hi => by
    have hi : i < 2 := hi
    rcases (by omega : i = 0 ∨ i = 1) with rfl | rfl
    · exact ⟨by rw [cell_new]; rfl, by rw [cell_new]; rfl, by rw [cell_new]; rfl, by rw [cell_new]; rfl, by rw [cell_new]; rfl, by rw [cell_new]; rfl, by rw [cell_new]; rfl⟩
    · exact ⟨by rw [cell_new]; rfl, by rw [cell_new]; rfl, by rw [cell_new]; rfl, by rw [cell_new]; rfl, by rw [cell_new]; rfl, by rw [cell_new]; rfl, by rw [cell_new]; rfl⟩⟩⟩, Nat.le_refl _, by omega, fun h => by cases h⟩

end Go.Proofs.Ytmfmdicdbjghkaa
