/-
  ids.Has, giroref12.Has, and slices.BinarySearch of numbers that rise.
-/
import Derived.Test.YtadnohkgbggoiaaIdsSpec
import Derived.Test.YtadnohkgbggoiaaNew
namespace Go.Proofs.Ytadnohkgbggoiaa
open Go.RowKit
set_option linter.unusedVariables false
set_option linter.unusedSimpArgs false

theorem cmpNaN_any (x : Int) (w : World) : Calls Try.prog 20 #[.int .i64 x] w fun e w' => e = .returned (.bool false) ∧ w' = w := by
  go_enter Try.func20, Try.ntmps20
  go_wp2
  go_ret
  exact ⟨by simp, rfl⟩
theorem slNaN_any (x : Int) (w : World) : Calls Try.prog 18 #[.int .i64 x] w fun e w' => e = .returned (.bool false) ∧ w' = w := by
  go_enter Try.func18, Try.ntmps18
  go_wp2
  go_ret
  exact ⟨by simp, rfl⟩
theorem less_any (x y : Int) (w : World) : Calls Try.prog 17 #[.int .i64 x, .int .i64 y] w fun e w' => e = .returned (.bool (decide (x < y))) ∧ w' = w := by
  go_enter Try.func17, Try.ntmps17
  go_wp2_with (go_at_call 20; refine (cmpNaN_any _ _).mono ?_; rintro e w' ⟨rfl, rfl⟩)
  go_ret
  exact ⟨rfl, rfl⟩

theorem search_none (a : Option Addr) (c : Nat) (x : Int) (w : World) : Calls Try.prog 14 #[.slice a 0 c, .int .i64 x] w fun e w' => e = .returned (.tuple #[.int .i64 0, .bool false]) ∧ w' = w := by
  go_enter Try.func14, Try.ntmps14
  go_wp2
  refine wp_loop_rounds 1 ?_
  rw [rounds_succ]
  go_wp2
  go_ret2
  exact ⟨rfl, rfl⟩

set_option maxHeartbeats 4000000 in
theorem search_row (b off c : Nat) (zs : List Int) (x : Int) (w : World) (hm : zs.length ≤ 1000000) (hu : Up zs) (hc : ∀ i, i < zs.length → w.cell? ⟨b, off + i, none⟩ = some (.int .i64 (zs.getD i 0))) :
    Calls Try.prog 14 #[.slice (some ⟨b, off, none⟩) zs.length c, .int .i64 x] w fun e w' => e = .returned (.tuple #[.int .i64 (cutN zs x : Nat), .bool (hasB zs x)]) ∧ w' = w := by
  have HC : Hid (∀ i, i < zs.length → w.cell? ⟨b, off + i, none⟩ = some (.int .i64 (zs.getD i 0))) := hc
  have HU : Hid (Up zs) := hu
  clear hc hu
  go_enter Try.func14, Try.ntmps14
  go_wp2
  go_loop [7, 8] (fun i j => ∃ lo hi : Nat, i = .int .i64 lo ∧ j = .int .i64 hi ∧ lo ≤ hi ∧ hi ≤ zs.length ∧ Hid ((∀ t, t < lo → zs.getD t 0 < x) ∧ (∀ t, hi ≤ t → t < zs.length → x ≤ zs.getD t 0))) (fun i j => (intOf j).toNat - (intOf i).toNat)
  case atStart => exact ⟨0, zs.length, rfl, rfl, Nat.zero_le _, Nat.le_refl _, fun t ht => absurd ht (Nat.not_lt_zero _), fun t h1 h2 => by omega⟩
  case round =>
    obtain ⟨lo, hi, rfl, rfl, hlh, hin, HI⟩ := hrel
    by_cases hlt : lo < hi
    · have c0 := HC.out ((lo + hi) / 2) (by omega)
      obtain ⟨y, hy⟩ : ∃ y, zs.getD ((lo + hi) / 2) 0 = y := ⟨_, rfl⟩
      rw [hy] at c0
      have HY : Hid (zs.getD ((lo + hi) / 2) 0 = y) := hy
      clear hy HC
      by_cases hyx : y < x
      · go_wp2_with (go_at_call 17; refine (less_any _ _ _).mono ?_; rintro e w' ⟨rfl, rfl⟩)
        go_round
        case rel =>
          refine ⟨(lo + hi) / 2 + 1, hi, by rw [show ((lo : Int) + (hi : Int)) / 2 + 1 = (((lo + hi) / 2 + 1 : Nat) : Int) by omega], rfl, by omega, hin, fun t ht => ?_, HI.out.2⟩
          have := up_le HU.out (i := t) (j := (lo + hi) / 2) (by omega) (by omega)
          rw [HY.out] at this
          omega
        case measure => simp [intOf]; omega
      · go_wp2_with (go_at_call 17; refine (less_any _ _ _).mono ?_; rintro e w' ⟨rfl, rfl⟩)
        go_round
        case rel =>
          refine ⟨lo, (lo + hi) / 2, rfl, by rw [show ((lo : Int) + (hi : Int)) / 2 = (((lo + hi) / 2 : Nat) : Int) by omega], by omega, by omega, HI.out.1, fun t ht htn => ?_⟩
          have := up_le HU.out ht htn
          rw [HY.out] at this
          omega
        case measure => simp [intOf]; omega
    · obtain rfl : hi = lo := by omega
      obtain ⟨e1, e2⟩ := search_end HU.out hin HI.out.1 HI.out.2
      have E1 : Hid (cutN zs x = hi) := e1
      have E2 : Hid (hasB zs x = (decide (hi < zs.length) && (zs.getD hi 0 == x))) := e2
      clear e1 e2
      by_cases hn : hi < zs.length
      · have c0 := HC.out hi hn
        obtain ⟨y, hy⟩ : ∃ y, zs.getD hi 0 = y := ⟨_, rfl⟩
        rw [hy] at c0
        have HY : Hid (zs.getD hi 0 = y) := hy
        have i1 : (hi : Int) < (zs.length : Int) := by omega
        clear hy HC HI
        by_cases hyx : y = x
        · subst hyx
          go_wp2
          go_ret2
          refine ⟨?_, rfl⟩
          rw [E1.out, E2.out, HY.out]
          simp [hn]
        · have hyx' : (y == x) = false := by simp [hyx]
          go_wp2_with (go_at_call 18; refine (slNaN_any _ _).mono ?_; rintro e w' ⟨rfl, rfl⟩)
          go_ret2
          refine ⟨?_, rfl⟩
          rw [E1.out, E2.out, HY.out, hyx']
          simp
      · clear HC HI
        go_wp2
        go_ret2
        refine ⟨?_, rfl⟩
        rw [E1.out, E2.out]
        simp [hn]

theorem cut_nil (x : Int) : cutN [] x = 0 := rfl
/-- How many are less, and is it there. -/
theorem search_any (a : Option Addr) (n c : Nat) (zs : List Int) (x : Int) (w : World) (h : Sl .i64 w a n zs) (hm : n ≤ 1000000) (hu : Up zs) :
    Calls Try.prog 14 #[.slice a n c, .int .i64 x] w fun e w' => e = .returned (.tuple #[.int .i64 (cutN zs x : Nat), .bool (hasB zs x)]) ∧ w' = w := by
  have l := h.1
  subst l
  rcases h.2.2 with h0 | ⟨b, off, rfl, hc⟩
  · subst h0
    rw [cut_nil, has_no (l := []) (x := x) (fun i hi => by simp at hi)]
    exact search_none a c x w
  · exact search_row b off c zs x w hm hu hc

theorem idsHas_any (a : Option Addr) (n c : Nat) (zs : List Int) (x : Int) (w : World) (h : Sl .i64 w a n zs) (hm : n ≤ 1000000) (hu : Up zs) :
    Calls Try.prog 12 #[.slice a n c, .int .i64 x] w fun e w' => e = .returned (.bool (hasB zs x)) ∧ w' = w := by
  have S := search_any a n c zs x w h hm hu
  clear h hu
  go_enter Try.func12, Try.ntmps12
  go_wp2_with (go_at_call 14; refine S.mono ?_; rintro e w' ⟨rfl, rfl⟩)
  go_ret
  exact ⟨rfl, rfl⟩

theorem refHas_none (a : Option Addr) (c : Nat) (x : Int) (w : World) : Calls Try.prog 13 #[.slice a 0 c, .int .i64 x] w fun e w' => e = .returned (.bool false) ∧ w' = w := by
  go_enter Try.func13, Try.ntmps13
  go_wp2
  refine wp_loop_rounds 1 ?_
  rw [rounds_succ]
  go_wp2
  go_ret
  exact ⟨rfl, rfl⟩

set_option maxHeartbeats 1000000 in
theorem refHas_row (b off c : Nat) (zs : List Int) (x : Int) (w : World) (hm : zs.length ≤ 9223372036854775807) (hc : ∀ i, i < zs.length → w.cell? ⟨b, off + i, none⟩ = some (.int .i64 (zs.getD i 0))) :
    Calls Try.prog 13 #[.slice (some ⟨b, off, none⟩) zs.length c, .int .i64 x] w fun e w' => e = .returned (.bool (hasB zs x)) ∧ w' = w := by
  have HC : Hid (∀ i, i < zs.length → w.cell? ⟨b, off + i, none⟩ = some (.int .i64 (zs.getD i 0))) := hc
  clear hc
  go_enter Try.func13, Try.ntmps13
  go_wp2
  go_loop [5] (fun i => ∃ k : Nat, k ≤ zs.length ∧ i = .int .i64 k ∧ Hid (∀ j, j < k → zs.getD j 0 ≠ x)) (fun i => zs.length - (intOf i).toNat)
  case atStart => exact ⟨0, by omega, rfl, fun j hj => by omega⟩
  case round =>
    obtain ⟨k, hk, rfl, HP⟩ := hrel
    by_cases hlt : k < zs.length
    · have c0 := HC.out k hlt
      obtain ⟨y, hy⟩ : ∃ y, zs.getD k 0 = y := ⟨_, rfl⟩
      rw [hy] at c0
      have HX : Hid (zs.getD k 0 = y) := hy
      clear hy
      have i1 : (k : Int) < (zs.length : Int) := by omega
      by_cases hxp : y = x
      · subst hxp
        have HD : Hid (true = hasB zs y) := (has_yes hlt HX.out).symm
        clear HC
        go_wp2
        go_ret
        exact ⟨rt_bool HD.out, rfl⟩
      · have hne : (y == x) = false := by simp [hxp]
        clear HC
        go_wp2
        go_round
        case rel =>
          refine ⟨k + 1, by omega, by go_num, fun j hj => ?_⟩
          by_cases hjk : j < k
          · exact HP.out j hjk
          · obtain rfl : j = k := by omega
            rw [HX.out]
            exact hxp
        case measure => simp [intOf]; omega
    · obtain rfl : k = zs.length := by omega
      have HD : Hid (false = hasB zs x) := (has_no HP.out).symm
      clear HC
      go_wp2
      go_ret
      exact ⟨rt_bool HD.out, rfl⟩

theorem refHas_any (a : Option Addr) (n c : Nat) (zs : List Int) (x : Int) (w : World) (h : Sl .i64 w a n zs) (hm : n ≤ 9223372036854775807) :
    Calls Try.prog 13 #[.slice a n c, .int .i64 x] w fun e w' => e = .returned (.bool (hasB zs x)) ∧ w' = w := by
  have l := h.1
  subst l
  rcases h.2.2 with h0 | ⟨b, off, rfl, hc⟩
  · subst h0
    rw [has_no (l := []) (x := x) (fun i hi => by simp at hi)]
    exact refHas_none a c x w
  · exact refHas_row b off c zs x w hm hc
end Go.Proofs.Ytadnohkgbggoiaa
