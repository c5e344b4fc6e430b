/-
  msg: is a message one: the document's answer.
-/
import Derived.Test.YtaifnlfebdochaaMsgIs
namespace Go.Proofs.Ytaifnlfebdochaa
open Go.RowKit

theorem refIs_walk (k f0 f1 f2 f3 f4 f5 m : Int) (s : Nat) (fs : List Int) (hfs : [f0, f1, f2, f3, f4, f5] = fs) (R : Bool) (HR : Hid ((decide (∀ z ∈ fs.drop s, z = 0) && decide (0 ≤ m)) = R)) (w : World)
    (M : ∀ w, Calls Try.prog 21 #[.int .i64 k] w (fun e w' => e = .returned (.int .i64 m) ∧ Below w.heap.size w w')) (hm : (if m < 0 then 0 else m) = (s : Int)) (_ : m ≤ 6) (_ : -1 ≤ m) (hn : s ≤ 6) :
    Calls Try.prog 11 #[.agg #[.int .i64 k, .int .i64 f0, .int .i64 f1, .int .i64 f2, .int .i64 f3, .int .i64 f4, .int .i64 f5]] w (fun e w' => e = .returned (.bool R) ∧ Below w.heap.size w w') := by
  go_enter Try.func11, Try.ntmps11
  go_wp2_with fail
  go_at_call 21
  refine (M _).mono ?_
  rintro e w1 ⟨rfl, hw⟩
  have b1 : Below w.heap.size w (w.alloc (.cells #[.int .i64 k, .int .i64 f0, .int .i64 f1, .int .i64 f2, .int .i64 f3, .int .i64 f4, .int .i64 f5] 24)) := (Below.refl _ _).alloc (Nat.le_refl _) _
  have bel : Below w.heap.size w w1 := b1.trans (hw.mono b1.size)
  have HC : ∀ i, i < 6 → w1.cell? ⟨w.heap.size, 1 + i, none⟩ = some (.int .i64 (fs.getD i 0)) := by
    intro i hi
    have c := msg_cells w k f0 f1 f2 f3 f4 f5 24 (0, 0) i hi
    rw [hw.cell (p := ⟨w.heap.size, 1 + i, none⟩) (block_lt_of_cell c), ← hfs]
    exact c
  have HF : Hid (fs.length = 6) := by subst hfs; rfl
  clear hw hfs b1
  go_wp2
  clear hm
  go_loop [4] (fun i => ∃ j : Nat, s ≤ j ∧ j ≤ 6 ∧ i = .int .i64 j ∧ ∀ z ∈ (fs.drop s).take (j - s), z = 0) (fun i => 6 - (intOf i).toNat)
  case atStart => exact ⟨s, by omega, by omega, rfl, by simp⟩
  case round =>
    obtain ⟨j, hsj, hj, rfl, hz⟩ := hrel
    have HZ : Hid (∀ z ∈ (fs.drop s).take (j - s), z = 0) := hz
    have HD : Hid ((fs.drop s).length = 6 - s) := by
      show (fs.drop s).length = 6 - s
      rw [List.length_drop, HF.out]
    clear hz
    by_cases hlt : j < 6
    · have c := HC j hlt
      obtain ⟨x, hx⟩ : ∃ x, fs.getD j 0 = x := ⟨_, rfl⟩
      have HX : Hid ((fs.drop s).getD (j - s) 0 = x) := by
        show (fs.drop s).getD (j - s) 0 = x
        rw [← hx, List.getD_eq_getElem?_getD, List.getElem?_drop, Nat.add_sub_cancel' hsj, ← List.getD_eq_getElem?_getD]
      rw [hx] at c
      have i1 : (j : Int) < 6 := by omega
      clear hx HC
      by_cases hx0 : x = 0
      · subst hx0
        go_wp2
        go_round
        case rel =>
          refine ⟨j + 1, by omega, by omega, by go_num, ?_⟩
          rw [Nat.sub_add_comm hsj, take_snoc _ (j - s) (by rw [HD.out]; omega), HX.out]
          intro z hz
          rcases List.mem_append.mp hz with hz | hz
          · exact HZ.out z hz
          · simpa using hz
        case measure => simp [intOf]; omega
      · have hx1 : (x == 0) = false := by simp [hx0]
        have hR : Hid (false = R) := by
          show false = R
          rw [← HR.out, decide_eq_false, Bool.false_and]
          intro h
          exact hx0 (by rw [← HX.out]; exact h _ (getD_mem (by rw [HD.out]; omega)))
        clear hx0
        go_wp2
        go_ret
        exact ⟨rt_bool hR.out, bel⟩
    · obtain rfl : j = 6 := by omega
      have hR : Hid (decide (0 ≤ m) = R) := by
        show decide (0 ≤ m) = R
        have h : ∀ z ∈ fs.drop s, z = 0 := fun z hz => HZ.out z (by rw [List.take_of_length_le (by rw [HD.out]; exact Nat.le_refl _)]; exact hz)
        rw [← HR.out, decide_eq_true h, Bool.true_and]
      clear HC
      go_wp2
      go_ret
      exact ⟨rt_bool hR.out, bel⟩

/-- Is, as the document answers. -/
theorem refIs_any (k f0 f1 f2 f3 f4 f5 : Int) (w : World) : Calls Try.prog 11 #[.agg #[.int .i64 k, .int .i64 f0, .int .i64 f1, .int .i64 f2, .int .i64 f3, .int .i64 f4, .int .i64 f5]] w
    (fun e w' => e = .returned (.bool (isS k [f0, f1, f2, f3, f4, f5])) ∧ Below w.heap.size w w') := by
  have hr := manyS_range k
  refine refIs_walk k f0 f1 f2 f3 f4 f5 (manyS k) (manyS k).toNat _ rfl _ ?_ w (refMany_any k) (by split <;> omega) (by omega) (by omega) (by omega)
  show (_ && _) = isS _ _
  rw [isS, Bool.and_comm]

end Go.Proofs.Ytaifnlfebdochaa
