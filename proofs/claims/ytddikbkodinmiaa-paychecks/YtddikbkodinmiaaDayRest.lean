/-
  day: May, Solves, Closes; rules and known of girolaw7.
-/
import Derived.Test.YtddikbkodinmiaaDayRul
namespace Go.Proofs.Ytddikbkodinmiaa
open Go.RowKit
set_option linter.unusedVariables false
set_option linter.unusedSimpArgs false

/-- A class may not, at a tick. -/
def mayS (cut cl t c : Int) : Int := if cl ≤ t ∨ (c = 3 ∧ cut ≤ t) then 7 else 0
def solS (cl per t : Int) : Bool := decide (0 < t ∧ t < cl ∧ per ≠ 0 ∧ t % per = 0)
def endS (cl t : Int) : Bool := decide (t = cl)

theorem may_end {cut cl t c : Int} (h : cl ≤ t) : (7 : Int) = mayS cut cl t c := by unfold mayS; rw [if_pos (.inl h)]
theorem may_cut {cut cl t c : Int} (h : c = 3) (k : cut ≤ t) : (7 : Int) = mayS cut cl t c := by unfold mayS; rw [if_pos (.inr ⟨h, k⟩)]
theorem may_class {cut cl t c : Int} (h : t < cl) (k : ¬ c = 3) : (0 : Int) = mayS cut cl t c := by unfold mayS; rw [if_neg (by omega)]
theorem may_ok {cut cl t c : Int} (h : t < cl) (k : t < cut) : (0 : Int) = mayS cut cl t c := by unfold mayS; rw [if_neg (by omega)]

theorem may_any (p : Int) (a : Option Addr) (len cap : Nat) (cut cl per t c : Int) (w : World) :
    Calls Try.prog 22 #[.agg #[.int .i64 p, .slice a len cap, .int .i64 cut, .int .i64 cl, .int .i64 per], .int .i64 t, .int .i64 c] w fun e w' => e = .returned (.int .i64 (mayS cut cl t c)) ∧ Below w.heap.size w w' := by
  rcases Int.lt_or_le t cl with h1 | h1
  · by_cases h2 : c = 3
    · subst h2
      rcases Int.lt_or_le t cut with h3 | h3
      · go_enter Try.func22, Try.ntmps22
        go_wp2
        go_ret
        exact ⟨rt_int (may_ok h1 h3), box_below _ _⟩
      · go_enter Try.func22, Try.ntmps22
        go_wp2
        go_ret
        exact ⟨rt_int (may_cut rfl h3), box_below _ _⟩
    · have h2b : (c == 3) = false := by simpa using h2
      have H2 : Hid (¬ c = 3) := h2
      clear h2
      go_enter Try.func22, Try.ntmps22
      go_wp2
      go_ret
      exact ⟨rt_int (may_class h1 H2.out), box_below _ _⟩
  · go_enter Try.func22, Try.ntmps22
    go_wp2
    go_ret
    exact ⟨rt_int (may_end h1), box_below _ _⟩

theorem refMay_any (p : Int) (a : Option Addr) (len cap : Nat) (cut cl per t c : Int) (w : World) :
    Calls Try.prog 23 #[.agg #[.int .i64 p, .slice a len cap, .int .i64 cut, .int .i64 cl, .int .i64 per], .int .i64 t, .int .i64 c] w fun e w' => e = .returned (.int .i64 (mayS cut cl t c)) ∧ Below w.heap.size w w' := by
  rcases Int.lt_or_le t cl with h1 | h1
  · by_cases h2 : c = 3
    · subst h2
      rcases Int.lt_or_le t cut with h3 | h3
      · go_enter Try.func23, Try.ntmps23
        go_wp2
        go_ret
        exact ⟨rt_int (may_ok h1 h3), box_below _ _⟩
      · go_enter Try.func23, Try.ntmps23
        go_wp2
        go_ret
        exact ⟨rt_int (may_cut rfl h3), box_below _ _⟩
    · have h2b : (c == 3) = false := by simpa using h2
      have H2 : Hid (¬ c = 3) := h2
      clear h2
      go_enter Try.func23, Try.ntmps23
      go_wp2
      go_ret
      exact ⟨rt_int (may_class h1 H2.out), box_below _ _⟩
  · go_enter Try.func23, Try.ntmps23
    go_wp2
    go_ret
    exact ⟨rt_int (may_end h1), box_below _ _⟩

theorem sol_low {cl per t : Int} (h : t ≤ 0) : false = solS cl per t := by unfold solS; symm; rw [decide_eq_false_iff_not]; omega
theorem sol_end {cl per t : Int} (h : cl ≤ t) : false = solS cl per t := by unfold solS; symm; rw [decide_eq_false_iff_not]; omega
theorem sol_zero {cl t : Int} : false = solS cl 0 t := by unfold solS; symm; rw [decide_eq_false_iff_not]; omega
theorem sol_rest {cl per t : Int} (h0 : 0 < t) (h1 : t < cl) : (per != 0 && t % per == 0) = solS cl per t := by unfold solS; simp [h0, h1]; rw [Bool.eq_iff_iff]; simp
theorem sol_ref {cl per t : Int} (h0 : 0 < t) (h1 : t < cl) (h2 : 1 ≤ per) : (t % per == 0) = solS cl per t := by unfold solS; simp [h0, h1]; rw [Bool.eq_iff_iff]; simp; omega


theorem asts_two {w : World} {g : Nat} {x y : Int} {t : TypeId} (h : w.heap[g]? = some (.cells #[.int .i64 x, .int .i64 y] t (0, 0))) : Asts w (some ⟨g, 0, none⟩) 1 (fun _ => x) (fun _ => y) := by
  refine .inr ⟨g, 0, rfl, lt_of_block h, fun r hr => ?_⟩
  obtain rfl : r = 0 := by omega
  exact ⟨cell_of_row w g 0 _ _ _ h, cell_of_row w g 1 _ _ _ h⟩

end Go.Proofs.Ytddikbkodinmiaa
