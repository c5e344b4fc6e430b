/-
  day: May, Solves, Closes; rules and known of girolaw7.
-/
import Derived.Test.YthaallopiolijaaDayRul
namespace Go.Proofs.Ythaallopiolijaa
open Go.RowKit
set_option linter.unusedVariables false
set_option linter.unusedSimpArgs false

/-- A class may not, at a tick. -/
def mayS (cut cl t c : Int) : Int := if cl ≤ t ∨ (c = 3 ∧ cut ≤ t) then 7 else 0
def solS (cl per t : Int) : Bool := decide (0 < t ∧ t < cl ∧ per ≠ 0 ∧ t % per = 0)
def endS (cl t : Int) : Bool := decide (t = cl)

theorem may_end {cut cl t c : Int} (h : cl ≤ t) : (7 : Int) = mayS cut cl t c := by unfold mayS; rw [if_pos (.inl h)]
theorem may_cut {cut cl t c : Int} (h : c = 3) (k : cut ≤ t) : (7 : Int) = mayS cut cl t c := by unfold mayS; rw [if_pos (.inr ⟨h, k⟩)]
theorem may_class {cut cl t c : Int} (h : t < cl) (k : ¬ c = 3) : (0 : Int) = mayS cut cl t c := by unfold mayS; rw [if_neg (by omega)]
theorem may_ok {cut cl t c : Int} (h : t < cl) (k : t < cut) : (0 : Int) = mayS cut cl t c := by unfold mayS; rw [if_neg (by omega)]

theorem may_any (p : Int) (a : Option Addr) (len cap : Nat) (cut cl per t c : Int) (w : World) :
    Calls Try.prog 11 #[.agg #[.int .i64 p, .slice a len cap, .int .i64 cut, .int .i64 cl, .int .i64 per], .int .i64 t, .int .i64 c] w fun e w' => e = .returned (.int .i64 (mayS cut cl t c)) ∧ Below w.heap.size w w' := by
  rcases Int.lt_or_le t cl with h1 | h1
  · by_cases h2 : c = 3
    · subst h2
      rcases Int.lt_or_le t cut with h3 | h3
      · go_enter Try.func11, Try.ntmps11
        go_wp2
        go_ret
        exact ⟨rt_int (may_ok h1 h3), box_below _ _⟩
      · go_enter Try.func11, Try.ntmps11
        go_wp2
        go_ret
        exact ⟨rt_int (may_cut rfl h3), box_below _ _⟩
    · have h2b : (c == 3) = false := by simpa using h2
      have H2 : Hid (¬ c = 3) := h2
      clear h2
      go_enter Try.func11, Try.ntmps11
      go_wp2
      go_ret
      exact ⟨rt_int (may_class h1 H2.out), box_below _ _⟩
  · go_enter Try.func11, Try.ntmps11
    go_wp2
    go_ret
    exact ⟨rt_int (may_end h1), box_below _ _⟩

theorem refMay_any (p : Int) (a : Option Addr) (len cap : Nat) (cut cl per t c : Int) (w : World) :
    Calls Try.prog 12 #[.agg #[.int .i64 p, .slice a len cap, .int .i64 cut, .int .i64 cl, .int .i64 per], .int .i64 t, .int .i64 c] w fun e w' => e = .returned (.int .i64 (mayS cut cl t c)) ∧ Below w.heap.size w w' := by
  rcases Int.lt_or_le t cl with h1 | h1
  · by_cases h2 : c = 3
    · subst h2
      rcases Int.lt_or_le t cut with h3 | h3
      · go_enter Try.func12, Try.ntmps12
        go_wp2
        go_ret
        exact ⟨rt_int (may_ok h1 h3), box_below _ _⟩
      · go_enter Try.func12, Try.ntmps12
        go_wp2
        go_ret
        exact ⟨rt_int (may_cut rfl h3), box_below _ _⟩
    · have h2b : (c == 3) = false := by simpa using h2
      have H2 : Hid (¬ c = 3) := h2
      clear h2
      go_enter Try.func12, Try.ntmps12
      go_wp2
      go_ret
      exact ⟨rt_int (may_class h1 H2.out), box_below _ _⟩
  · go_enter Try.func12, Try.ntmps12
    go_wp2
    go_ret
    exact ⟨rt_int (may_end h1), box_below _ _⟩

theorem sol_low {cl per t : Int} (h : t ≤ 0) : false = solS cl per t := by unfold solS; symm; rw [decide_eq_false_iff_not]; omega
theorem sol_end {cl per t : Int} (h : cl ≤ t) : false = solS cl per t := by unfold solS; symm; rw [decide_eq_false_iff_not]; omega
theorem sol_zero {cl t : Int} : false = solS cl 0 t := by unfold solS; symm; rw [decide_eq_false_iff_not]; omega
theorem sol_rest {cl per t : Int} (h0 : 0 < t) (h1 : t < cl) : (per != 0 && t % per == 0) = solS cl per t := by unfold solS; simp [h0, h1]; rw [Bool.eq_iff_iff]; simp
theorem sol_ref {cl per t : Int} (h0 : 0 < t) (h1 : t < cl) (h2 : 1 ≤ per) : (t % per == 0) = solS cl per t := by unfold solS; simp [h0, h1]; rw [Bool.eq_iff_iff]; simp; omega

theorem solves_any (p : Int) (a : Option Addr) (len cap : Nat) (cut cl per t : Int) (w : World) :
    Calls Try.prog 13 #[.agg #[.int .i64 p, .slice a len cap, .int .i64 cut, .int .i64 cl, .int .i64 per], .int .i64 t] w fun e w' => e = .returned (.bool (solS cl per t)) ∧ Below w.heap.size w w' := by
  rcases Int.lt_or_le 0 t with h0 | h0
  · rcases Int.lt_or_le t cl with h1 | h1
    · by_cases h2 : per = 0
      · subst h2
        go_enter Try.func13, Try.ntmps13
        go_wp2
        go_ret
        exact ⟨rt_bool sol_zero, box_below _ _⟩
      · go_enter Try.func13, Try.ntmps13
        go_wp2
        go_ret
        exact ⟨rt_bool (sol_rest h0 h1), box_below _ _⟩
    · go_enter Try.func13, Try.ntmps13
      go_wp2
      go_ret
      exact ⟨rt_bool (sol_end h1), box_below _ _⟩
  · go_enter Try.func13, Try.ntmps13
    go_wp2
    go_ret
    exact ⟨rt_bool (sol_low h0), box_below _ _⟩

theorem refSolves_any (p : Int) (a : Option Addr) (len cap : Nat) (cut cl per t : Int) (w : World) (hp : 1 ≤ per) :
    Calls Try.prog 14 #[.agg #[.int .i64 p, .slice a len cap, .int .i64 cut, .int .i64 cl, .int .i64 per], .int .i64 t] w fun e w' => e = .returned (.bool (solS cl per t)) ∧ Below w.heap.size w w' := by
  have hp0 : (per == 0) = false := by simp; omega
  rcases Int.lt_or_le 0 t with h0 | h0
  · rcases Int.lt_or_le t cl with h1 | h1
    · go_enter Try.func14, Try.ntmps14
      go_wp2
      go_ret
      exact ⟨rt_bool (sol_ref h0 h1 hp), box_below _ _⟩
    · go_enter Try.func14, Try.ntmps14
      go_wp2
      go_ret
      exact ⟨rt_bool (sol_end h1), box_below _ _⟩
  · go_enter Try.func14, Try.ntmps14
    go_wp2
    go_ret
    exact ⟨rt_bool (sol_low h0), box_below _ _⟩

theorem closes_any (p : Int) (a : Option Addr) (len cap : Nat) (cut cl per t : Int) (w : World) :
    Calls Try.prog 15 #[.agg #[.int .i64 p, .slice a len cap, .int .i64 cut, .int .i64 cl, .int .i64 per], .int .i64 t] w fun e w' => e = .returned (.bool (endS cl t)) ∧ Below w.heap.size w w' := by
  go_enter Try.func15, Try.ntmps15
  go_wp2
  go_ret
  exact ⟨rfl, box_below _ _⟩

theorem refCloses_any (p : Int) (a : Option Addr) (len cap : Nat) (cut cl per t : Int) (w : World) :
    Calls Try.prog 16 #[.agg #[.int .i64 p, .slice a len cap, .int .i64 cut, .int .i64 cl, .int .i64 per], .int .i64 t] w fun e w' => e = .returned (.bool (endS cl t)) ∧ Below w.heap.size w w' := by
  go_enter Try.func16, Try.ntmps16
  go_wp2
  go_ret
  exact ⟨rfl, box_below _ _⟩

theorem asts_two {w : World} {g : Nat} {x y : Int} {t : TypeId} (h : w.heap[g]? = some (.cells #[.int .i64 x, .int .i64 y] t (0, 0))) : Asts w (some ⟨g, 0, none⟩) 1 (fun _ => x) (fun _ => y) := by
  refine .inr ⟨g, 0, rfl, lt_of_block h, fun r hr => ?_⟩
  obtain rfl : r = 0 := by omega
  exact ⟨cell_of_row w g 0 _ _ _ h, cell_of_row w g 1 _ _ _ h⟩

def RulesEnd (w : World) (e : Ending) (w' : World) : Prop := ∃ g, e = .returned (.agg #[.int .i64 2, .slice (some ⟨g, 0, none⟩) 1 1, .int .i64 5, .int .i64 9, .int .i64 3]) ∧ w.heap.size ≤ g ∧ Below w.heap.size w w' ∧ w'.heap[g]? = some (.cells #[.int .i64 100, .int .i64 1000] 34 (0, 0))

theorem rules_any (w : World) : Calls Try.prog 17 #[] w (RulesEnd w) := by
  unfold RulesEnd
  go_enter Try.func17, Try.ntmps17
  go_wp2
  refine bodyPost_ret (v := .agg #[.int .i64 2, .slice (some ⟨w.heap.size + 1, 0, none⟩) 1 1, .int .i64 5, .int .i64 9, .int .i64 3]) (by simp [results, Try.results17, go_sem]) rfl ⟨w.heap.size + 1, rfl, by omega, ((Below.refl _ _).alloc (Nat.le_refl _) _).alloc (by simp) _, ?_⟩
  have h := heap_alloc_new (w.alloc (Obj.cells #[.int .i64 2, .slice (some ⟨w.heap.size + 1, 0, none⟩) 1 1, .int .i64 5, .int .i64 9, .int .i64 3] 24)) (Obj.cells #[.int .i64 100, .int .i64 1000] 34)
  simpa using h

set_option maxHeartbeats 4000000 in
theorem known_any (w : World) : Calls Try.prog 10 #[] w fun e w' => e = .returned (.bool true) ∧ Below w.heap.size w w' := by
  have I : ∀ g w, Asts w (some ⟨g, 0, none⟩) 1 (fun _ => 100) (fun _ => 1000) → Calls Try.prog 8 #[.agg #[.int .i64 2, .slice (some ⟨g, 0, none⟩) 1 1, .int .i64 5, .int .i64 9, .int .i64 3]] w fun e w' => e = .returned (.bool true) ∧ Below w.heap.size w w' := fun g w h => is_any 2 _ 1 1 _ _ 5 9 3 w h (by omega)
  have M1 : ∀ g w, Calls Try.prog 11 #[.agg #[.int .i64 2, .slice (some ⟨g, 0, none⟩) 1 1, .int .i64 5, .int .i64 9, .int .i64 3], .int .i64 5, .int .i64 3] w fun e w' => e = .returned (.int .i64 7) ∧ Below w.heap.size w w' := fun g w => may_any 2 _ 1 1 5 9 3 5 3 w
  have M2 : ∀ g w, Calls Try.prog 11 #[.agg #[.int .i64 2, .slice (some ⟨g, 0, none⟩) 1 1, .int .i64 5, .int .i64 9, .int .i64 3], .int .i64 5, .int .i64 2] w fun e w' => e = .returned (.int .i64 0) ∧ Below w.heap.size w w' := fun g w => may_any 2 _ 1 1 5 9 3 5 2 w
  have S : ∀ g w, Calls Try.prog 13 #[.agg #[.int .i64 2, .slice (some ⟨g, 0, none⟩) 1 1, .int .i64 5, .int .i64 9, .int .i64 3], .int .i64 6] w fun e w' => e = .returned (.bool true) ∧ Below w.heap.size w w' := fun g w => solves_any 2 _ 1 1 5 9 3 6 w
  have E : ∀ g w, Calls Try.prog 15 #[.agg #[.int .i64 2, .slice (some ⟨g, 0, none⟩) 1 1, .int .i64 5, .int .i64 9, .int .i64 3], .int .i64 9] w fun e w' => e = .returned (.bool true) ∧ Below w.heap.size w w' := fun g w => closes_any 2 _ 1 1 5 9 3 9 w
  go_enter Try.func10, Try.ntmps10
  go_wp2_with fail
  go_at_call 17
  refine (rules_any _).mono ?_
  rintro e w1 ⟨g, rfl, _, b, hc⟩
  have B1 : Hid (Below w.heap.size w w1) := b
  have A := asts_two hc
  clear b hc
  go_wp2_with fail
  go_at_call 8
  refine (I _ _ A).mono ?_
  rintro e w2 ⟨rfl, b⟩
  have B2 : Hid (Below w.heap.size w w2) := B1.out.trans (b.mono B1.out.size)
  clear b A I
  go_wp2_with fail
  go_at_call 17
  refine (rules_any _).mono ?_
  rintro e w3 ⟨g2, rfl, _, b, _⟩
  have B3 : Hid (Below w.heap.size w w3) := B2.out.trans (b.mono B2.out.size)
  clear b
  go_wp2_with fail
  go_at_call 11
  refine (M1 _ _).mono ?_
  rintro e w4 ⟨rfl, b⟩
  have B4 : Hid (Below w.heap.size w w4) := B3.out.trans (b.mono B3.out.size)
  clear b M1
  go_wp2_with fail
  go_at_call 17
  refine (rules_any _).mono ?_
  rintro e w5 ⟨g4, rfl, _, b, _⟩
  have B5 : Hid (Below w.heap.size w w5) := B4.out.trans (b.mono B4.out.size)
  clear b
  go_wp2_with fail
  go_at_call 11
  refine (M2 _ _).mono ?_
  rintro e w6 ⟨rfl, b⟩
  have B6 : Hid (Below w.heap.size w w6) := B5.out.trans (b.mono B5.out.size)
  clear b M2
  go_wp2_with fail
  go_at_call 17
  refine (rules_any _).mono ?_
  rintro e w7 ⟨g6, rfl, _, b, _⟩
  have B7 : Hid (Below w.heap.size w w7) := B6.out.trans (b.mono B6.out.size)
  clear b
  go_wp2_with fail
  go_at_call 13
  refine (S _ _).mono ?_
  rintro e w8 ⟨rfl, b⟩
  have B8 : Hid (Below w.heap.size w w8) := B7.out.trans (b.mono B7.out.size)
  clear b S
  go_wp2_with fail
  go_at_call 17
  refine (rules_any _).mono ?_
  rintro e w9 ⟨g8, rfl, _, b, _⟩
  have B9 : Hid (Below w.heap.size w w9) := B8.out.trans (b.mono B8.out.size)
  clear b
  go_wp2_with fail
  go_at_call 15
  refine (E _ _).mono ?_
  rintro e w10 ⟨rfl, b⟩
  have B10 : Hid (Below w.heap.size w w10) := B9.out.trans (b.mono B9.out.size)
  clear b E
  go_wp2
  go_ret
  exact ⟨rfl, B10.out⟩

end Go.Proofs.Ythaallopiolijaa
