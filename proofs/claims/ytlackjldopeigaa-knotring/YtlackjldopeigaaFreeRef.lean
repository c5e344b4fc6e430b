/-
  giroref18: Goes, Next: the document's answer.
-/
import Derived.Test.YtlackjldopeigaaFreeSpec
import Derived.Test.YtlackjldopeigaaPostAll
import Derived.Test.YtlackjldopeigaaViewAll
import Derived.Test.YtlackjldopeigaaRowRefs
import Derived.Test.YtlackjldopeigaaFitsRefAll
import Derived.Test.YtlackjldopeigaaFactsLate
import Derived.Deep.CutRange
namespace Go.Proofs.Ytlackjldopeigaa
open Go.RowKit
set_option linter.unusedVariables false
set_option linter.unusedSimpArgs false

theorem postR_good {b : Bks} (g : Good b) (L : List P7) : Good (postR b L) := by
  unfold postR
  by_cases h : (allB b L && booksB (postB b L)) = true
  · rw [if_pos h]
    rw [Bool.and_eq_true] at h
    exact booksB_yes.1 h.2
  · rw [if_neg h]
    exact g
theorem goesB_eq (b : Bks) (L : List P7) : goesB b L = ((postE b L == 0) && fitsB b L) := by
  unfold goesB
  rw [Bool.and_comm]
  congr 1
/-- The first that goes; none. -/
theorem find_here {α : Type} {f : α → Bool} {d : α} : ∀ {m : List α} {k : Nat}, k < m.length → (∀ j, j < k → f (m.getD j d) = false) → f (m.getD k d) = true → m.find? f = some (m.getD k d) := by
  intro m
  induction m with
  | nil => intro k hk; simp at hk
  | cons x m ih =>
    intro k hk hn hy
    cases k with
    | zero =>
      have hy : f x = true := hy
      simp [hy]
    | succ k =>
      have h0 : f x = false := hn 0 (by omega)
      rw [List.find?_cons, h0]
      exact ih (by simpa using hk) (fun j hj => hn (j + 1) (by omega)) hy
theorem find_nothing {α : Type} {f : α → Bool} {d : α} {m : List α} (h : ∀ j, j < m.length → f (m.getD j d) = false) : m.find? f = none := by
  rw [List.find?_eq_none]
  intro x hx
  obtain ⟨j, hj, rfl⟩ := List.getElem_of_mem hx
  have := h j hj
  simp [List.getD_eq_getElem?_getD, hj] at this
  simpa using this

/-- What Goes leaves. -/
def GoesEnd (w : World) (b : Bks) (L : List P7) (e : Ending) (w' : World) : Prop := ∃ y : BA, e = .returned (.tuple #[y.val, .bool (goesB b L)]) ∧ (goesB b L = true → NewBk w' w.heap.size y (postR b L)) ∧ Below w.heap.size w w'


/-- Facts: what Goes answered, whatever the books; some books; a variable for books. -/
def Fact.goes (q : Bool) : Fact := ⟨fun _ v => ∃ y : BA, v = .tuple #[y.val, .bool q], fun _ _ _ _ h => h⟩
def Fact.any4 : Fact := ⟨fun _ v => ∃ y : BA, v = y.val, fun _ _ _ _ h => h⟩
def Fact.gvar (B : Nat) : Fact := ⟨fun w v => ∃ z : Nat, v = .pointer (some ⟨z, 0, none⟩) ∧ B ≤ z ∧ w.heap[z]? = some (.cells #[.slice none 0 0, .slice none 0 0, .slice none 0 0, .slice none 0 0] 27 (0, 0)), fun w w' v hb ⟨z, h1, h2, h3⟩ => ⟨z, h1, h2, (hb.block z (lt_of_block h3)).trans h3⟩⟩
theorem goes_fact {f : FuncId} {args : Array Value} {w : World} {b : Bks} {L : List P7} {q : Bool} (hq : goesB b L = q) (h : Calls Try.prog f args w (GoesEnd w b L)) :
    Calls Try.prog f args w fun e w' => ∃ v, e = .returned v ∧ Below w.heap.size w w' ∧ (Fact.goes q).1 w' v :=
  h.mono fun e w' ⟨y, h1, _, h3⟩ => ⟨_, h1, h3, y, by rw [hq]⟩


end Go.Proofs.Ytlackjldopeigaa
