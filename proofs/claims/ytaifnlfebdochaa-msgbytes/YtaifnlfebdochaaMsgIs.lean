/-
  msg: is a message one: the program's answer and the document's.
-/
import Derived.Test.YtaifnlfebdochaaMsgMany
namespace Go.Proofs.Ytaifnlfebdochaa
open Go.RowKit

/-- A message of a kind, and its six numbers. -/
def msgV (k f0 f1 f2 f3 f4 f5 : Int) : Value := .agg #[.int .i64 k, .int .i64 f0, .int .i64 f1, .int .i64 f2, .int .i64 f3, .int .i64 f4, .int .i64 f5]

def isS (k : Int) (fs : List Int) : Bool := decide (0 ≤ manyS k) && decide (∀ n ∈ fs.drop (manyS k).toNat, n = 0)

theorem cell_new (w : World) (cs : Array Value) (t : TypeId) (fr : Nat × Nat) (i : Nat) : (w.alloc (.cells cs t fr)).cell? ⟨w.heap.size, i, none⟩ = cs[i]? := by
  exact cell_of_row (w.alloc (.cells cs t fr)) w.heap.size i _ _ _ (heap_alloc_new w _)

/-- A message's numbers, where it was laid. -/
theorem msg_cells (w : World) (k f0 f1 f2 f3 f4 f5 : Int) (t : TypeId) (fr : Nat × Nat) (i : Nat) (hi : i < 6) :
    (w.alloc (.cells #[.int .i64 k, .int .i64 f0, .int .i64 f1, .int .i64 f2, .int .i64 f3, .int .i64 f4, .int .i64 f5] t fr)).cell? ⟨w.heap.size, 1 + i, none⟩ = some (.int .i64 ([f0, f1, f2, f3, f4, f5].getD i 0)) := by
  rw [cell_new]
  obtain rfl | rfl | rfl | rfl | rfl | rfl : i = 0 ∨ i = 1 ∨ i = 2 ∨ i = 3 ∨ i = 4 ∨ i = 5 := by omega
  all_goals rfl

/-- What a walk is told of a message that was laid at g. -/
def Laid (w : World) (g : Nat) (k : Int) (fs : List Int) : Prop := fs.length = 6 ∧ w.cell? ⟨g, 0, none⟩ = some (.int .i64 k) ∧ ∀ i, i < 6 → w.cell? ⟨g, 1 + i, none⟩ = some (.int .i64 (fs.getD i 0))

theorem laid (w : World) (k f0 f1 f2 f3 f4 f5 : Int) (t : TypeId) (fr : Nat × Nat) : Laid (w.alloc (.cells #[.int .i64 k, .int .i64 f0, .int .i64 f1, .int .i64 f2, .int .i64 f3, .int .i64 f4, .int .i64 f5] t fr)) w.heap.size k [f0, f1, f2, f3, f4, f5] :=
  ⟨rfl, by rw [cell_new]; rfl, fun i hi => msg_cells _ _ _ _ _ _ _ _ _ _ _ hi⟩

theorem is_low (k f0 f1 f2 f3 f4 f5 m : Int) (w : World) (M : ∀ w, Calls Try.prog 20 #[.int .i64 k] w (fun e w' => e = .returned (.int .i64 m) ∧ w' = w)) (h0 : m < 0) :
    Calls Try.prog 14 #[.agg #[.int .i64 k, .int .i64 f0, .int .i64 f1, .int .i64 f2, .int .i64 f3, .int .i64 f4, .int .i64 f5]] w (fun e w' => e = .returned (.bool false) ∧ Below w.heap.size w w') := by
  go_enter Try.func14, Try.ntmps14
  go_wp2_with (go_at_call 20; refine (M _).mono ?_; rintro e w1 ⟨rfl, hw⟩; obtain rfl := hw.symm)
  go_ret
  exact ⟨rfl, (Below.refl _ _).alloc (Nat.le_refl _) _⟩

theorem is_six (k f0 f1 f2 f3 f4 f5 : Int) (w : World) (M : ∀ w, Calls Try.prog 20 #[.int .i64 k] w (fun e w' => e = .returned (.int .i64 6) ∧ w' = w)) :
    Calls Try.prog 14 #[.agg #[.int .i64 k, .int .i64 f0, .int .i64 f1, .int .i64 f2, .int .i64 f3, .int .i64 f4, .int .i64 f5]] w (fun e w' => e = .returned (.bool true) ∧ Below w.heap.size w w') := by
  go_enter Try.func14, Try.ntmps14
  go_wp2_with (go_at_call 20; refine (M _).mono ?_; rintro e w1 ⟨rfl, hw⟩; obtain rfl := hw.symm)
  refine wp_loop_rounds 1 ?_
  rw [rounds_succ]
  go_wp2
  go_ret
  exact ⟨rfl, (Below.refl _ _).alloc (Nat.le_refl _) _⟩

theorem is_some (k f0 f1 f2 f3 f4 f5 : Int) (n : Nat) (fs : List Int) (hfs : [f0, f1, f2, f3, f4, f5] = fs) (R : Bool) (HR : Hid (decide (∀ z ∈ fs.drop n, z = 0) = R)) (w : World) (M : ∀ w, Calls Try.prog 20 #[.int .i64 k] w (fun e w' => e = .returned (.int .i64 (n : Int)) ∧ w' = w)) (hn : n < 6) :
    Calls Try.prog 14 #[.agg #[.int .i64 k, .int .i64 f0, .int .i64 f1, .int .i64 f2, .int .i64 f3, .int .i64 f4, .int .i64 f5]] w (fun e w' => e = .returned (.bool R) ∧ Below w.heap.size w w') := by
  have hne : ¬ 6 = n := by omega
  have hi6 : (n : Int) ≤ 6 := by omega
  have hi0 : (0 : Int) ≤ n := by omega
  go_enter Try.func14, Try.ntmps14
  go_wp2_with fail
  go_at_call 20
  refine (M _).mono ?_
  rintro e w1 ⟨rfl, hw⟩
  have bel : Below w.heap.size w w1 := by rw [hw]; exact (Below.refl _ _).alloc (Nat.le_refl _) _
  have HC : Laid w1 w.heap.size k fs := by rw [hw, ← hfs]; exact laid _ _ _ _ _ _ _ _ _ _
  clear hw hfs
  obtain ⟨L, hL⟩ : ∃ L, 6 - n = L := ⟨_, rfl⟩
  have HL : Hid (n + L = 6) := by show n + L = 6; omega
  have hL6 : L ≤ 6 := by omega
  have HF : Hid (fs.length = 6) := HC.1
  have HC := HC.2.2
  go_wp2
  clear hL
  go_loop [15] (fun i => ∃ j : Nat, j ≤ L ∧ i = .int .i64 j ∧ ∀ z ∈ (fs.drop n).take j, z = 0) (fun i => L - (intOf i).toNat)
  case atStart => exact ⟨0, by omega, rfl, by simp⟩
  case round =>
    obtain ⟨j, hj, rfl, hz⟩ := hrel
    have HZ : Hid (∀ z ∈ (fs.drop n).take j, z = 0) := hz
    have HD : Hid ((fs.drop n).length = L) := by
      show (fs.drop n).length = L
      rw [List.length_drop, HF.out]
      have := HL.out
      omega
    clear hz
    by_cases hlt : j < L
    · have c := HC (n + j) (by have := HL.out; omega)
      obtain ⟨x, hx⟩ : ∃ x, fs.getD (n + j) 0 = x := ⟨_, rfl⟩
      have HX : Hid ((fs.drop n).getD j 0 = x) := by
        show (fs.drop n).getD j 0 = x
        rw [← hx, List.getD_eq_getElem?_getD, List.getElem?_drop, ← List.getD_eq_getElem?_getD]
      rw [hx, ← Nat.add_assoc] at c
      have i1 : (j : Int) < (L : Int) := by omega
      clear hx HC
      by_cases hx0 : x = 0
      · subst hx0
        go_wp2
        go_round
        case rel =>
          refine ⟨j + 1, by omega, by go_num, ?_⟩
          rw [take_snoc _ j (by rw [HD.out]; exact hlt), HX.out]
          intro z hz
          rcases List.mem_append.mp hz with hz | hz
          · exact HZ.out z hz
          · simpa using hz
        case measure => simp [intOf]; omega
      · have hx1 : (x == 0) = false := by simp [hx0]
        have hR : Hid (false = R) := by
          show false = R
          rw [← HR.out]
          symm
          rw [decide_eq_false_iff_not]
          intro h
          exact hx0 (by rw [← HX.out]; exact h _ (getD_mem (by rw [HD.out]; exact hlt)))
        clear hx0
        go_wp2
        go_ret
        exact ⟨rt_bool hR.out, bel⟩
    · obtain rfl : j = L := by omega
      have hR : Hid (true = R) := by
        show true = R
        rw [← HR.out]
        symm
        rw [decide_eq_true_iff]
        intro z hz
        exact HZ.out z (by rw [List.take_of_length_le (by rw [HD.out]; exact Nat.le_refl _)]; exact hz)
      clear HC
      go_wp2
      go_ret
      exact ⟨rt_bool hR.out, bel⟩

/-- Is. -/
theorem is_any (k f0 f1 f2 f3 f4 f5 : Int) (w : World) : Calls Try.prog 14 #[.agg #[.int .i64 k, .int .i64 f0, .int .i64 f1, .int .i64 f2, .int .i64 f3, .int .i64 f4, .int .i64 f5]] w
    (fun e w' => e = .returned (.bool (isS k [f0, f1, f2, f3, f4, f5])) ∧ Below w.heap.size w w') := by
  have M := many_any k
  have hr := manyS_range k
  obtain ⟨m, hm⟩ : ∃ m, manyS k = m := ⟨_, rfl⟩
  rw [hm] at M hr
  unfold isS
  rw [hm]
  clear hm
  by_cases h0 : m < 0
  · have hb : (decide (0 ≤ m) && decide (∀ n ∈ [f0, f1, f2, f3, f4, f5].drop m.toNat, n = 0)) = false := by
      rw [decide_eq_false (by omega), Bool.false_and]
    rw [hb]
    exact is_low k f0 f1 f2 f3 f4 f5 m w M h0
  · obtain ⟨n, rfl⟩ : ∃ n : Nat, m = n := ⟨m.toNat, by omega⟩
    rw [decide_eq_true (by omega), Bool.true_and, Int.toNat_natCast]
    by_cases hs : n = 6
    · subst hs
      exact is_six k f0 f1 f2 f3 f4 f5 w M
    · exact is_some k f0 f1 f2 f3 f4 f5 n _ rfl _ rfl w M (by omega)

end Go.Proofs.Ytaifnlfebdochaa
