/-
  knot: of all choices that hold none has more of anybody (plain lists).
-/
import Derived.Test.YtlackjldopeigaaKnotPure
import Derived.Test.YtlackjldopeigaaRowBase
namespace Go.Proofs.Ytlackjldopeigaa
open Go.RowKit
set_option linter.unusedVariables false
set_option linter.unusedSimpArgs false

theorem most_fits {b : Bks} {R : List P7} (h : allB b R = true) : fitsB b (headsN R (mostK b R).1) = true :=
  fitsB_of (headsN_all _ h) (mostK_end (allB_am h)).1
theorem most_least {b : Bks} {R : List P7} (h3 : b.A.length = 3) (h : allB b R = true) {i k j : Nat} (h0 : i ≤ cntF R 0) (h1 : k ≤ cntF R 1) (h2 : j ≤ cntF R 2) (hf : fitsB b (headsN R [i, k, j]) = true) : i ≤ (mostK b R).1.getD 0 0 ∧ k ≤ (mostK b R).1.getD 1 0 ∧ j ≤ (mostK b R).1.getD 2 0 := by
  have H := (mostK_end (b := b) (allB_am h)).2.1 [i, k, j] (by rw [h3]; rfl) (fun q => by
    match q with
    | 0 => rw [cnts_at b R (by omega)]; exact h0
    | 1 => rw [cnts_at b R (by omega)]; exact h1
    | 2 => rw [cnts_at b R (by omega)]; exact h2
    | q + 3 => simp) (fitsB_yes hf).2
  exact ⟨H 0, H 1, H 2⟩

theorem Sl.three {k : IntKind} {w : World} {h : Nat} {x y z : Int} (s : Sl k w (some ⟨h, 0, none⟩) 3 [x, y, z]) : w.cell? ⟨h, 0, none⟩ = some (.int k x) ∧ w.cell? ⟨h, 1, none⟩ = some (.int k y) ∧ w.cell? ⟨h, 2, none⟩ = some (.int k z) :=
  ⟨s.cells 0 _ rfl, s.cells 1 _ rfl, s.cells 2 _ rfl⟩

end Go.Proofs.Ytlackjldopeigaa
