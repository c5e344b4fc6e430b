/-
  msg: how many numbers a kind has, whose it is: the program's answer and the document's.
-/
import Derived.Test.YtaifnlfebdochaaWordAll
namespace Go.Proofs.Ytaifnlfebdochaa
open Go.RowKit

/-- How many numbers each kind has. -/
def manyL : List Int := [-1, 6, 1, 2, 2, 2, 1, 1, 2, 0, 2, 2, 2, 0, 0, 0, 1, 5, 4, 1, 1, 1, 1, 1]
def manyS (k : Int) : Int := if k < 0 then -1 else manyL.getD k.toNat (-1)

theorem manyS_low {k : Int} (h : k < 0) : manyS k = -1 := by simp [manyS, h]
theorem manyS_high {k : Int} (h : 24 ≤ k) : manyS k = -1 := by
  have : ¬ k < 0 := by omega
  have h2 : manyL.length ≤ k.toNat := by simp [manyL]; omega
  simp only [manyS, this, if_false, List.getD_eq_getElem?_getD]
  rw [List.getElem?_eq_none h2]; rfl

/-- One of the first 24, or none of them. -/
theorem kind_cases (k : Int) : (k < 0 ∨ 24 ≤ k) ∨ (∃ n : Nat, n < 24 ∧ k = n) := by
  by_cases h : k < 0 ∨ 24 ≤ k
  · exact .inl h
  · exact .inr ⟨k.toNat, by omega, by omega⟩

theorem manyS_range (k : Int) : -1 ≤ manyS k ∧ manyS k ≤ 6 := by
  rcases kind_cases k with (h | h) | ⟨n, hn, rfl⟩
  · rw [manyS_low h]; omega
  · rw [manyS_high h]; omega
  · have : ∀ n : Nat, n < 24 → -1 ≤ manyS n ∧ manyS n ≤ 6 := by decide
    exact this n hn

set_option maxHeartbeats 2000000 in
theorem many_any (k : Int) (w : World) : Calls Try.prog 20 #[.int .i64 k] w (fun e w' => e = .returned (.int .i64 (manyS k)) ∧ w' = w) := by
  go_enter Try.func20, Try.ntmps20
  go_wp2
  all_goals go_ret
  all_goals refine ⟨rt_int ?_, rfl⟩
  all_goals first
    | (rename_i h; have h := eq_of_beq h; subst h; rfl)
    | skip
  simp only [beq_eq_false_iff_ne, ne_eq] at *
  by_cases h0 : k = 0
  · subst h0; rfl
  · by_cases h1 : k < 0
    · rw [manyS_low h1]
    · rw [manyS_high (by omega)]

set_option maxHeartbeats 2000000 in
theorem refMany_any (k : Int) (w : World) : Calls Try.prog 21 #[.int .i64 k] w (fun e w' => e = .returned (.int .i64 (manyS k)) ∧ Below w.heap.size w w') := by
  go_enter Try.func21, Try.ntmps21
  go_wp2
  · rename_i h
    go_ret
    refine ⟨rt_int ?_, (Below.refl _ _).alloc (Nat.le_refl _) _⟩
    rcases h with h | h
    · rw [manyS_low h]
    · rw [manyS_high h]
  · rename_i h
    go_ret
    refine ⟨congrArg Ending.returned ?_, (Below.refl _ _).alloc (Nat.le_refl _) _⟩
    have hl : k.toNat < manyL.length := by simp [manyL]; omega
    have h0 : ¬ k < 0 := by omega
    show (manyL.map (Value.int .i64))[k.toNat]'(by simpa using hl) = .int .i64 (manyS k)
    rw [List.getElem_map]
    simp only [manyS, h0, if_false, List.getD_eq_getElem?_getD, List.getElem?_eq_getElem hl, Option.getD_some]
  · rename_i h
    go_ret
    exact ⟨rt_int (manyS_low h).symm, (Below.refl _ _).alloc (Nat.le_refl _) _⟩

theorem asked_any (k : Int) (w : World) : Calls Try.prog 22 #[.int .i64 k] w (fun e w' => e = .returned (.bool (decide (1 ≤ k) && decide (k ≤ 14))) ∧ w' = w) := by
  go_enter Try.func22, Try.ntmps22
  go_wp2
  all_goals go_ret
  all_goals exact ⟨rt_bool (by simp; try omega), rfl⟩

theorem host_any (k : Int) (w : World) : Calls Try.prog 24 #[.int .i64 k] w (fun e w' => e = .returned (.bool (decide (10 ≤ k) && decide (k ≤ 14))) ∧ w' = w) := by
  go_enter Try.func24, Try.ntmps24
  go_wp2
  all_goals go_ret
  all_goals exact ⟨rt_bool (by simp; try omega), rfl⟩

theorem refAsked_any (k : Int) (w : World) : Calls Try.prog 23 #[.int .i64 k] w (fun e w' => e = .returned (.bool (decide (1 ≤ k) && decide (k ≤ 14))) ∧ w' = w) := by
  go_enter Try.func23, Try.ntmps23
  go_wp2
  all_goals go_ret
  all_goals exact ⟨rt_bool (by simp; try omega), rfl⟩

theorem refHost_any (k : Int) (w : World) : Calls Try.prog 25 #[.int .i64 k] w (fun e w' => e = .returned (.bool (decide (10 ≤ k) && decide (k ≤ 14))) ∧ w' = w) := by
  go_enter Try.func25, Try.ntmps25
  go_wp2
  all_goals go_ret
  all_goals exact ⟨rt_bool (by simp; try omega), rfl⟩

end Go.Proofs.Ytaifnlfebdochaa
