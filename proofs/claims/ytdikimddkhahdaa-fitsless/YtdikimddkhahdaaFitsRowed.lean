/-
  fits on books of three accounts and a row that rowed makes; fits.Short of payments that may be.
-/
import Derived.Test.YtdikimddkhahdaaKnown15
import Derived.Test.YtdikimddkhahdaaRowRefs
import Derived.Test.YtdikimddkhahdaaRowBase
namespace Go.Proofs.Ytdikimddkhahdaa
open Go.RowKit
set_option linter.unusedVariables false
set_option linter.unusedSimpArgs false

theorem short_all {b : Bks} {L : List P7} (h : allB b L = true) : (if allB b L then shortL b L else []) = shortL b L := by rw [h]; rfl
theorem rowed_may {p : P7} {k : Nat} (h : RowedP k p) : mayB 3 p = true := by
  obtain ⟨_, h1, h2, h3, h4, h5, _⟩ := h
  exact mayB_yes.2 ⟨by omega, by omega, h3, by omega, h5⟩
theorem rowed_all {b : Bks} {L : List P7} {k : Nat} (h3 : b.A.length = 3) (hl : L.length ≤ 64) (h : ∀ p ∈ L, RowedP k p) : allB b L = true := by
  unfold allB
  rw [Bool.and_eq_true, decide_eq_true_eq, List.all_eq_true]
  exact ⟨fun p hp => by rw [h3]; exact rowed_may (h p hp), hl⟩
theorem short_good (x : BA) (b : Bks) (a : Option Addr) (n c : Nat) (L : List P7) (w : World) (hk : Bk w x b) (g : Good b) (h : PGood w a n c L) (hA : allB b L = true) :
    Calls Try.prog 16 #[x.val, .slice a n c] w (IEnd w (shortL b L)) := by
  have := fitsShort_any x b a n c L w hk g h
  rwa [short_all hA] at this
/-- Two rows of ints that are one, held against each other. -/
theorem ints_one {a d : Option Addr} {c e0 : Nat} {l : List Nat} {u : World} (h : IGood u a l.length c l) (k : IGood u d l.length e0 l) :
    Calls Try.prog 15 #[.slice a l.length c, .slice d l.length e0] u fun e w' => ∃ v, e = .returned v ∧ Below u.heap.size u w' ∧ (Fact.is (.bool true)).1 w' v := by
  have := ints_any a d l.length c l.length e0 l l u h k
  rw [show intsB l l = true from decide_eq_true rfl] at this
  exact bool_fact this

end Go.Proofs.Ytdikimddkhahdaa
