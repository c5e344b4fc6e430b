/-
  fits on books of three accounts and a row that rowed makes; fits.Short of payments that may be.
-/
import Derived.Test.YtlackjldopeigaaKnown15
import Derived.Test.YtlackjldopeigaaRowRefs
import Derived.Test.YtlackjldopeigaaRowBase
namespace Go.Proofs.Ytlackjldopeigaa
open Go.RowKit
set_option linter.unusedVariables false
set_option linter.unusedSimpArgs false

theorem short_all {b : Bks} {L : List P7} (h : allB b L = true) : (if allB b L then shortL b L else []) = shortL b L := by rw [h]; rfl
theorem rowed_may {p : P7} {k : Nat} (h : RowedP k p) : mayB 3 p = true := by
  obtain ⟨_, h1, h2, h3, h4, h5, _⟩ := h
  exact mayB_yes.2 ⟨by omega, by omega, h3, by omega, h5⟩
theorem rowed_all {b : Bks} {L : List P7} {k : Nat} (h3 : b.A.length = 3) (hl : L.length ≤ 64) (h : ∀ p ∈ L, RowedP k p) : allB b L = true := by
  unfold allB
  rw [Bool.and_eq_true, decide_eq_true_eq, List.all_eq_true]
  exact ⟨fun p hp => by rw [h3]; exact rowed_may (h p hp), hl⟩
theorem short_good (x : BA) (b : Bks) (a : Option Addr) (n c : Nat) (L : List P7) (w : World) (hk : Bk w x b) (g : Good b) (h : PGood w a n c L) (hA : allB b L = true) :
    Calls Try.prog 31 #[x.val, .slice a n c] w (IEnd w (shortL b L)) := by
  have := fitsShort_any x b a n c L w hk g h
  rwa [short_all hA] at this
end Go.Proofs.Ytlackjldopeigaa
