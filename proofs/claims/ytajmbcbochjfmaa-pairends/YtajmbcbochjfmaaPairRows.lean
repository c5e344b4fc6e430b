/-
  Two variables for payments: both are written.
-/
import Derived.Test.YtajmbcbochjfmaaRowRefs
namespace Go.Proofs.Ytajmbcbochjfmaa
open Go.RowKit
set_option linter.unusedVariables false
set_option linter.unusedSimpArgs false

def n70 : P7 × P7 := (p70, p70)
theorem PBox.froz {w : World} {g : Nat} {p : P7} (h : PBox w g p) : ∀ i, w.frozen? ⟨g, i, none⟩ = false := fun i => frozen_of_row w g i _ _ h
theorem two_rows {w : World} {g f : Nat} {p q : P7} (hg : PBox w g p) (hf : PBox w f q) (hne : g ≠ f) (x y : P7) : PBox ((w.setRow g #[.int .i64 x.id, .int .i64 x.fr, .int .i64 x.to, .int .i64 x.am, .int .i64 x.cl, .int .i64 x.st, .int .i64 x.ti]).setRow f #[.int .i64 y.id, .int .i64 y.fr, .int .i64 y.to, .int .i64 y.am, .int .i64 y.cl, .int .i64 y.st, .int .i64 y.ti]) g x ∧ PBox ((w.setRow g #[.int .i64 x.id, .int .i64 x.fr, .int .i64 x.to, .int .i64 x.am, .int .i64 x.cl, .int .i64 x.st, .int .i64 x.ti]).setRow f #[.int .i64 y.id, .int .i64 y.fr, .int .i64 y.to, .int .i64 y.am, .int .i64 y.cl, .int .i64 y.st, .int .i64 y.ti]) f y :=
  ⟨(hg.set x).far hne _, (hf.far (fun e => hne e.symm) _).set y⟩

end Go.Proofs.Ytajmbcbochjfmaa
