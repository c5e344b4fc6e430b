/-
  ids.Is and giroref12.Is.
-/
import Derived.Test.YtadnohkgbggoiaaIdsSpec
import Derived.Test.YtadnohkgbggoiaaNew
namespace Go.Proofs.Ytadnohkgbggoiaa
open Go.RowKit
set_option linter.unusedVariables false
set_option linter.unusedSimpArgs false

theorem idsIs_long (a : Option Addr) (n c : Nat) (w : World) (h : 200 < n) : Calls Try.prog 7 #[.slice a n c] w fun e w' => e = .returned (.bool false) ∧ w' = w := by
  have h0 : (200 : Int) < (n : Int) := by omega
  go_enter Try.func7, Try.ntmps7
  go_wp2
  go_ret
  exact ⟨rfl, rfl⟩

theorem idsIs_none (a : Option Addr) (c : Nat) (w : World) : Calls Try.prog 7 #[.slice a 0 c] w fun e w' => e = .returned (.bool true) ∧ w' = w := by
  go_enter Try.func7, Try.ntmps7
  go_wp2
  refine wp_loop_rounds 1 ?_
  rw [rounds_succ]
  go_wp2
  go_ret
  exact ⟨rfl, rfl⟩

set_option maxHeartbeats 1000000 in
theorem idsIs_row (b off c : Nat) (zs : List Int) (w : World) (hn : zs.length ≤ 200) (hc : ∀ i, i < zs.length → w.cell? ⟨b, off + i, none⟩ = some (.int .i64 (zs.getD i 0))) :
    Calls Try.prog 7 #[.slice (some ⟨b, off, none⟩) zs.length c] w fun e w' => e = .returned (.bool (upB zs)) ∧ w' = w := by
  have HC : Hid (∀ i, i < zs.length → w.cell? ⟨b, off + i, none⟩ = some (.int .i64 (zs.getD i 0))) := hc
  clear hc
  go_enter Try.func7, Try.ntmps7
  go_wp2
  go_loop [3, 11] (fun last i => ∃ k : Nat, k ≤ zs.length ∧ i = .int .i64 k ∧ last = .int .i64 (prv zs k) ∧ Hid (∀ j, j < k → prv zs j < zs.getD j 0)) (fun _ i => zs.length - (intOf i).toNat)
  case atStart => exact ⟨0, by omega, rfl, rfl, fun j hj => by omega⟩
  case round =>
    obtain ⟨k, hk, rfl, rfl, HP⟩ := hrel
    by_cases hlt : k < zs.length
    · have c0 := HC.out k hlt
      obtain ⟨x, hx⟩ : ∃ x, zs.getD k 0 = x := ⟨_, rfl⟩
      obtain ⟨p, hp⟩ : ∃ p, prv zs k = p := ⟨_, rfl⟩
      rw [hx] at c0
      rw [hp]
      have HX : Hid (zs.getD k 0 = x) := hx
      have HQ : Hid (prv zs k = p) := hp
      clear hx hp
      have i1 : (k : Int) < (zs.length : Int) := by omega
      by_cases hxp : x ≤ p
      · have HD : Hid (false = upB zs) := by
          have : ¬ Up zs := fun hu => by have := hu k hlt; rw [HX.out, HQ.out] at this; omega
          show false = upB zs
          rw [upB_no this]
        go_wp2
        go_ret
        exact ⟨rt_bool HD.out, rfl⟩
      · go_wp2
        go_round
        case rel =>
          refine ⟨k + 1, by omega, by go_num, by rw [prv_succ, HX.out], fun j hj => ?_⟩
          by_cases hjk : j < k
          · exact HP.out j hjk
          · obtain rfl : j = k := by omega
            rw [HX.out, HQ.out]
            omega
        case measure => simp [intOf]; omega
    · obtain rfl : k = zs.length := by omega
      have HD : Hid (true = upB zs) := by
        show true = upB zs
        rw [upB_yes HP.out]
      clear HC
      go_wp2
      go_ret
      exact ⟨rt_bool HD.out, rfl⟩

/-- Is: such, or not. -/
theorem idsIs_any (a : Option Addr) (n c : Nat) (zs : List Int) (w : World) (h : Sl .i64 w a n zs) : Calls Try.prog 7 #[.slice a n c] w fun e w' => e = .returned (.bool (isB zs)) ∧ w' = w := by
  have l := h.1
  subst l
  by_cases hl : 200 < zs.length
  · rw [isB_long hl]
    exact idsIs_long a _ c w hl
  · rw [isB_short (by omega)]
    rcases h.2.2 with h0 | ⟨b, off, rfl, hc⟩
    · subst h0
      exact idsIs_none a c w
    · exact idsIs_row b off c zs w (by omega) hc

theorem refIs_none (a : Option Addr) (c : Nat) (w : World) : Calls Try.prog 6 #[.slice a 0 c] w fun e w' => e = .returned (.bool true) ∧ ∃ q, w' = w.drewN q := by
  go_enter Try.func6, Try.ntmps6
  go_wp2
  refine wp_loop_rounds 1 ?_
  rw [rounds_succ]
  go_wp2
  go_ret
  exact ⟨rfl, 0, rfl⟩

set_option maxHeartbeats 4000000 in
theorem refIs_row (b off c : Nat) (zs : List Int) (w : World) (hm : zs.length ≤ 9223372036854775807) (hc : ∀ i, i < zs.length → w.cell? ⟨b, off + i, none⟩ = some (.int .i64 (zs.getD i 0))) :
    Calls Try.prog 6 #[.slice (some ⟨b, off, none⟩) zs.length c] w fun e w' => e = .returned (.bool (isB zs)) ∧ ∃ q, w' = w.drewN q := by
  have HC : Hid (∀ i, i < zs.length → w.cell? ⟨b, off + i, none⟩ = some (.int .i64 (zs.getD i 0))) := hc
  clear hc
  go_enter Try.func6, Try.ntmps6
  go_wp2
  go_loopw [3] (fun i wr => ∃ (k q : Nat), k ≤ zs.length ∧ i = .int .i64 k ∧ wr = w.drewN q ∧ Hid (∀ j, j < k → 1 ≤ zs.getD j 0 ∧ (0 < j → zs.getD (j - 1) 0 < zs.getD j 0))) (fun i _ => zs.length - (intOf i).toNat)
  case atStart => exact ⟨0, 0, by omega, rfl, rfl, fun j hj => by omega⟩
  case round =>
    obtain ⟨k, q, hk, rfl, rfl, HP⟩ := hrel
    by_cases hlt : k < zs.length
    · have c0 := HC.out k hlt
      have i1 : (k : Int) < (zs.length : Int) := by omega
      obtain ⟨x, hx⟩ : ∃ x, zs.getD k 0 = x := ⟨_, rfl⟩
      rw [hx] at c0
      have HX : Hid (zs.getD k 0 = x) := hx
      clear hx
      by_cases hx1 : x < 1
      · have HD : Hid (false = isB zs) := by
          have := not_up_low hlt (by rw [HX.out]; exact hx1)
          show false = isB zs
          unfold isB
          rw [upB_no this, Bool.and_false]
        clear HC
        go_wp2
        go_quiet (fail)
        go_wp2
        go_ret
        exact ⟨rt_bool HD.out, q + nq, by first | rfl | exact World.drewN_drewN _ _ _⟩
      · have hx2 : decide (x < 1) = false := by simpa using hx1
        by_cases hk0 : k = 0
        · subst hk0
          rw [Nat.add_zero] at c0
          clear HC
          go_wp2
          go_quiet (fail)
          go_wp2
          go_roundw
          case rel =>
            refine ⟨1, q + nq, by omega, by go_num, by first | rfl | exact World.drewN_drewN _ _ _, fun j hj => ?_⟩
            obtain rfl : j = 0 := by omega
            rw [HX.out]
            exact ⟨by omega, fun h => by omega⟩
          case measure => simp [intOf]; omega
        · have c1 := HC.out (k - 1) (by omega)
          obtain ⟨m, rfl⟩ : ∃ m, k = m + 1 := ⟨k - 1, by omega⟩
          rw [Nat.add_sub_cancel] at c1
          obtain ⟨y, hy⟩ : ∃ y, zs.getD m 0 = y := ⟨_, rfl⟩
          rw [hy] at c1
          have HY : Hid (zs.getD m 0 = y) := hy
          have e1 : ((m + 1 : Nat) : Int) - 1 = (m : Int) := by omega
          have g0 : (0 : Int) < ((m + 1 : Nat) : Int) := by omega
          have d0 : decide ((0 : Int) < ((m + 1 : Nat) : Int)) = true := decide_eq_true g0
          clear hy HC
          by_cases hxy : x ≤ y
          · have HD : Hid (false = isB zs) := by
              have := not_up_fall hlt (by omega) (by rw [HX.out, Nat.add_sub_cancel, HY.out]; exact hxy)
              show false = isB zs
              unfold isB
              rw [upB_no this, Bool.and_false]
            go_wp2
            go_quiet (fail)
            go_wp2
            go_ret
            exact ⟨rt_bool HD.out, q + nq, by first | rfl | exact World.drewN_drewN _ _ _⟩
          · have hxy2 : decide (x ≤ y) = false := by simpa using hxy
            go_wp2
            go_quiet (fail)
            go_wp2
            go_roundw
            case rel =>
              refine ⟨m + 1 + 1, q + nq, by omega, by go_num, by first | rfl | exact World.drewN_drewN _ _ _, fun j hj => ?_⟩
              by_cases hjk : j < m + 1
              · exact HP.out j hjk
              · obtain rfl : j = m + 1 := by omega
                rw [HX.out, Nat.add_sub_cancel, HY.out]
                exact ⟨by omega, fun h => by omega⟩
            case measure => simp [intOf]; omega
    · obtain rfl : k = zs.length := by omega
      have HD : Hid (decide ((zs.length : Int) ≤ 200) = isB zs) := by
        show _ = isB zs
        unfold isB
        rw [upB_yes (up_of HP.out), Bool.and_true]
        by_cases h : zs.length ≤ 200
        · rw [decide_eq_true h, decide_eq_true (by omega)]
        · rw [decide_eq_false h, decide_eq_false (by omega)]
      clear HC
      go_wp2
      all_goals
        go_ret
        exact ⟨rt_bool HD.out, _, rfl⟩

theorem refIs_any (a : Option Addr) (n c : Nat) (zs : List Int) (w : World) (h : Sl .i64 w a n zs) (hm : n ≤ 9223372036854775807) : Calls Try.prog 6 #[.slice a n c] w fun e w' => e = .returned (.bool (isB zs)) ∧ ∃ q, w' = w.drewN q := by
  have l := h.1
  subst l
  rcases h.2.2 with h0 | ⟨b, off, rfl, hc⟩
  · subst h0
    exact refIs_none a c w
  · exact refIs_row b off c zs w hm hc
end Go.Proofs.Ytadnohkgbggoiaa
