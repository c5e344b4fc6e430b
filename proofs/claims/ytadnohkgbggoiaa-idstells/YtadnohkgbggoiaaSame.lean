/-
  giroref2's Same over this seat's program.
-/
import Derived.Test.YtadnohkgbggoiaaSl
namespace Go.Proofs.Ytadnohkgbggoiaa
open Go.RowKit
set_option linter.unusedVariables false

set_option maxHeartbeats 1000000 in
theorem same_row (b1 o1 c1 b2 o2 c2 : Nat) (xs ys : List Int) (w : World) (hl : xs.length = ys.length) (hm : xs.length ≤ 9223372036854775807)
    (h1 : ∀ i, i < xs.length → w.cell? ⟨b1, o1 + i, none⟩ = some (.int .i64 (xs.getD i 0))) (h2 : ∀ i, i < ys.length → w.cell? ⟨b2, o2 + i, none⟩ = some (.int .i64 (ys.getD i 0))) :
    Calls Try.prog 11 #[.slice (some ⟨b1, o1, none⟩) xs.length c1, .slice (some ⟨b2, o2, none⟩) xs.length c2] w fun e w' => e = .returned (.bool (decide (xs = ys))) ∧ ∃ n, w' = w.drewN n := by
  go_enter Try.func11, Try.ntmps11
  go_wp2
  go_loopw [5] (fun i wr => ∃ (k n : Nat), k ≤ xs.length ∧ i = .int .i64 k ∧ xs.take k = ys.take k ∧ wr = w.drewN n) (fun i _ => xs.length - (intOf i).toNat)
  case atStart => exact ⟨0, 0, by omega, rfl, by simp, rfl⟩
  case round =>
    obtain ⟨k, n, hk, rfl, he, rfl⟩ := hrel
    have HE : Hid (xs.take k = ys.take k) := he
    have HL : Hid (xs.length = ys.length) := hl
    clear he
    by_cases hlt : k < xs.length
    · have c1' := h1 k hlt
      have c2' := h2 k (by omega)
      obtain ⟨x, hx⟩ : ∃ x, xs.getD k 0 = x := ⟨_, rfl⟩
      obtain ⟨y, hy⟩ : ∃ y, ys.getD k 0 = y := ⟨_, rfl⟩
      rw [hx] at c1'
      rw [hy] at c2'
      have i1 : (k : Int) < (xs.length : Int) := by omega
      have HX : Hid (xs.getD k 0 = x) := hx
      have HY : Hid (ys.getD k 0 = y) := hy
      clear hx hy h1 h2 hl
      by_cases hxy : x = y
      · subst hxy
        go_wp2
        go_quiet (fail)
        go_wp2
        go_roundw
        case rel => exact ⟨k + 1, n + nq, by omega, by go_num, by rw [take_snoc xs k hlt, take_snoc ys k (by rw [← HL.out]; exact hlt), HE.out, HX.out, HY.out], rfl⟩
        case measure => simp [intOf]; omega
      · have hxy' : (x == y) = false := by simp [hxy]
        have HD : Hid (false = decide (xs = ys)) := by
          have : ¬ xs = ys := fun h => hxy (by rw [← HX.out, ← HY.out, h])
          show false = decide (xs = ys)
          rw [decide_eq_false this]
        clear hxy
        go_wp2
        go_quiet (fail)
        go_wp2
        go_ret
        exact ⟨rt_bool HD.out, n + nq, by first | rfl | exact World.drewN_drewN _ _ _⟩
    · obtain rfl : k = xs.length := by omega
      have HD : Hid (true = decide (xs = ys)) := by
        have h := HE.out
        rw [List.take_length, HL.out, List.take_length] at h
        show true = decide (xs = ys)
        rw [decide_eq_true h]
      clear h1 h2 hl
      go_wp2
      go_ret
      exact ⟨rt_bool HD.out, _, rfl⟩

set_option maxHeartbeats 400000 in
theorem same_not (a b : Option Addr) (la lb c1 c2 : Nat) (w : World) (h : la ≠ lb) :
    Calls Try.prog 11 #[.slice a la c1, .slice b lb c2] w fun e w' => e = .returned (.bool false) ∧ w' = w := by
  have h' : ((la : Int) == (lb : Int)) = false := by rw [beq_eq_false_iff_ne]; omega
  go_enter Try.func11, Try.ntmps11
  go_wp2
  go_ret
  exact ⟨rfl, rfl⟩

set_option maxHeartbeats 400000 in
theorem same_none (a b : Option Addr) (c1 c2 : Nat) (w : World) :
    Calls Try.prog 11 #[.slice a 0 c1, .slice b 0 c2] w fun e w' => e = .returned (.bool true) ∧ w' = w := by
  go_enter Try.func11, Try.ntmps11
  go_wp2
  refine wp_loop_rounds 1 ?_
  rw [rounds_succ]
  go_wp2
  go_ret
  exact ⟨rfl, rfl⟩

/-- Same. -/
theorem same_any (a b : Option Addr) (la lb c1 c2 : Nat) (xs ys : List Int) (w : World) (h1 : Sl .i64 w a la xs) (h2 : Sl .i64 w b lb ys) (hm : la ≤ 9223372036854775807) :
    Calls Try.prog 11 #[.slice a la c1, .slice b lb c2] w fun e w' => e = .returned (.bool (decide (xs = ys))) ∧ ∃ n, w' = w.drewN n := by
  have l1 := h1.1
  have l2 := h2.1
  subst l1 l2
  by_cases hl : xs.length = ys.length
  · rcases h1.2.2 with h0 | ⟨b1, o1, rfl, hc1⟩
    · subst h0
      have : ys = [] := List.length_eq_zero_iff.mp (by simpa using hl.symm)
      subst this
      refine (same_none a b c1 c2 w).mono ?_
      rintro e w' ⟨rfl, rfl⟩
      exact ⟨by simp, 0, rfl⟩
    · rcases h2.2.2 with h0 | ⟨b2, o2, rfl, hc2⟩
      · subst h0
        have : xs = [] := List.length_eq_zero_iff.mp (by simpa using hl)
        subst this
        refine (same_none _ b c1 c2 w).mono ?_
        rintro e w' ⟨rfl, rfl⟩
        exact ⟨by simp, 0, rfl⟩
      · have := same_row b1 o1 c1 b2 o2 c2 xs ys w hl hm hc1 hc2
        rw [← hl]
        exact this
  · refine (same_not a b _ _ c1 c2 w hl).mono ?_
    rintro e w' ⟨rfl, rfl⟩
    have : ¬ xs = ys := fun h => hl (by rw [h])
    exact ⟨by simp [this], 0, rfl⟩

end Go.Proofs.Ytadnohkgbggoiaa
