/-
  free: one by one, as plain lists.
-/
import Derived.Test.YtlackjldopeigaaViewAll
import Derived.Test.YtlackjldopeigaaPostAll
namespace Go.Proofs.Ytlackjldopeigaa
open Go.RowKit
set_option linter.unusedVariables false
set_option linter.unusedSimpArgs false

/-- Do they fit, and can they be posted? -/
def goesB (b : Bks) (L : List P7) : Bool := fitsB b L && decide (postE b L = 0)
/-- The next one that goes. -/
def nextP (b : Bks) (l : List P7) (t : Int) : Option P7 := (vMay l t).find? fun p => goesB b [p]
/-- At most so many; all. -/
def runA : Nat → Bks → List P7 → Int → List P7 → Bks × List P7 × List P7
  | 0, b, l, _, d => (b, l, d)
  | k + 1, b, l, t, d => match nextP b l t with
    | none => (b, l, d)
    | some p => runA k (postR b [p]) (qDrop l p.id) t (d ++ [p])
def runF (b : Bks) (l : List P7) (t : Int) : Bks × List P7 × List P7 := runA l.length b l t []

theorem may_mem {l : List P7} {t : Int} {p : P7} (h : p ∈ vMay l t) : p ∈ l := selA_mem (selA_mem h)
theorem next_some {b : Bks} {l : List P7} {t : Int} {p : P7} (h : nextP b l t = some p) : p ∈ vMay l t ∧ p ∈ l ∧ qHas l p.id = true ∧ fitsB b [p] = true ∧ postE b [p] = 0 := by
  have hm := List.mem_of_find?_eq_some h
  have hg := List.find?_some h
  unfold goesB at hg
  rw [Bool.and_eq_true, decide_eq_true_eq] at hg
  exact ⟨hm, may_mem hm, has_iff.2 ⟨p, may_mem hm, rfl⟩, hg.1, hg.2⟩
theorem next_none {b : Bks} {l : List P7} {t : Int} (h : nextP b l t = none) : ∀ p ∈ vMay l t, goesB b [p] = false := fun p hp => by
  have := List.find?_eq_none.1 h p hp
  simpa using this
theorem next_nil (b : Bks) (t : Int) : nextP b [] t = none := rfl
theorem next_len {b : Bks} {l : List P7} {t : Int} {p : P7} (h : nextP b l t = some p) : (qDrop l p.id).length + 1 = l.length := by
  have h1 := (next_some h).2.2.1
  rw [drop_len h1]
  have := at_lt h1
  omega
theorem fits_mayB {b : Bks} {p : P7} (h : fitsB b [p] = true) : mayB b.A.length p = true := by
  unfold fitsB allB at h
  rw [Bool.and_eq_true, Bool.and_eq_true, List.all_eq_true] at h
  exact h.1.1 p (by simp)

/-- One step of it, in a loop: with so many left it comes to the same. -/
theorem runA_step {b : Bks} {l : List P7} {t : Int} {p : P7} (d : List P7) (h : nextP b l t = some p) : runA l.length b l t d = runA (qDrop l p.id).length (postR b [p]) (qDrop l p.id) t (d ++ [p]) := by
  rw [← next_len h]
  show runA ((qDrop l p.id).length + 1) b l t d = _
  simp only [runA, h]
theorem runA_stop {b : Bks} {l : List P7} {t : Int} (d : List P7) (h : nextP b l t = none) : runA l.length b l t d = (b, l, d) := by
  cases hl : l.length with
  | zero => rfl
  | succ k => simp only [runA, h]
/-- What was settled, one by one; where it leads. -/
def stepsOk : Bks → List P7 → Int → List P7 → Prop
  | b, l, t, [] => nextP b l t = none
  | b, l, t, p :: d => nextP b l t = some p ∧ stepsOk (postR b [p]) (qDrop l p.id) t d
def endB : Bks → List P7 → Bks
  | b, [] => b
  | b, p :: d => endB (postR b [p]) d
def endL : List P7 → List P7 → List P7
  | l, [] => l
  | l, p :: d => endL (qDrop l p.id) d
theorem runA_steps : ∀ (k : Nat) (b : Bks) (l : List P7) (t : Int) (d0 : List P7), l.length = k → ∃ d, runA k b l t d0 = (endB b d, endL l d, d0 ++ d) ∧ stepsOk b l t d := by
  intro k
  induction k with
  | zero =>
    intro b l t d0 hl
    have : l = [] := List.length_eq_zero_iff.1 hl
    subst this
    exact ⟨[], by simp [runA, endB, endL], next_nil b t⟩
  | succ k ih =>
    intro b l t d0 hl
    cases h : nextP b l t with
    | none => exact ⟨[], by simp [runA, h, endB, endL], h⟩
    | some p =>
      obtain ⟨d, e, s⟩ := ih (postR b [p]) (qDrop l p.id) t (d0 ++ [p]) (by have := next_len h; omega)
      refine ⟨p :: d, ?_, h, s⟩
      simp only [runA, h, endB, endL, e, List.append_assoc, List.singleton_append]
theorem steps_end : ∀ (d : List P7) (b : Bks) (l : List P7) (t : Int), stepsOk b l t d → nextP (endB b d) (endL l d) t = none := by
  intro d
  induction d with
  | nil => intro b l t h; exact h
  | cons p d ih => intro b l t h; exact ih _ _ t h.2
/-- Behind it there is none. -/
theorem run_done (b : Bks) (l : List P7) (t : Int) : nextP (runF b l t).1 (runF b l t).2.1 t = none := by
  obtain ⟨d, e, s⟩ := runA_steps l.length b l t [] rfl
  unfold runF
  rw [e]
  exact steps_end d b l t s

end Go.Proofs.Ytlackjldopeigaa
