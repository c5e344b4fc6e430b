/-
  lim: is each of a list such: one theorem for each list and each function that is handed in.
-/
import Derived.Test.YtpaieecbedgeaaaLimSpec
namespace Go.Proofs.Ytpaieecbedgeaaa
open Go.RowKit
set_option linter.unusedVariables false
set_option linter.unusedSimpArgs false

theorem limitF_any (v : Int) (w : World) : Calls Try.prog 44 #[.int .i64 v] w fun e w' => e = .returned (.bool (limB v)) ∧ w' = w := by
  rcases Int.lt_or_le v 0 with h | h
  · by_cases h1 : v = -1
    · subst h1
      go_enter Try.func44, Try.ntmps44
      go_wp2
      go_ret
      exact ⟨rt_bool (by decide), rfl⟩
    · have h2 : (v == -1) = false := by simp [h1]
      have HL : Hid (v < -1) := by show v < -1; omega
      clear h1
      go_enter Try.func44, Try.ntmps44
      go_wp2
      go_ret
      exact ⟨rt_bool (limB_low HL.out), rfl⟩
  · have h2 : (v == -1) = false := by rw [beq_eq_false_iff_ne]; omega
    go_enter Try.func44, Try.ntmps44
    go_wp2
    go_ret
    exact ⟨rt_bool (limB_rest h), rfl⟩

theorem posF_any (v : Int) (w : World) : Calls Try.prog 45 #[.int .i64 v] w fun e w' => e = .returned (.bool (posB v)) ∧ w' = w := by
  rcases Int.lt_or_le (-72057594037927936) v with h | h
  · go_enter Try.func45, Try.ntmps45
    go_wp2
    go_ret
    exact ⟨rt_bool (posB_rest h), rfl⟩
  · go_enter Try.func45, Try.ntmps45
    go_wp2
    go_ret
    exact ⟨rt_bool (posB_low h), rfl⟩

theorem rowF_any (x : Option Addr) (l d g n : Nat) (w : World) (h : w.cell? ⟨g, 0, none⟩ = some (.int .i64 n)) : Calls Try.prog 42 #[.slice x l d, .pointer (some ⟨g, 0, none⟩)] w fun e w' => e = .returned (.bool (decide (l = n))) ∧ w' = w := by
  by_cases hl : l = n
  · subst hl
    go_enter Try.func42, Try.ntmps42
    go_wp2
    go_ret
    exact ⟨rt_bool (by simp), rfl⟩
  · have h' : ((l : Int) == (n : Int)) = false := by rw [beq_eq_false_iff_ne]; omega
    rw [decide_eq_false hl]
    clear hl
    go_enter Try.func42, Try.ntmps42
    go_wp2
    go_ret
    exact ⟨rfl, rfl⟩

theorem evLim_none (a : Option Addr) (c : Nat) (w : World) : Calls Try.prog 43 #[.slice a 0 c, .func (.func 44) #[] #[]] w fun e w' => e = .returned (.bool true) ∧ w' = w := by
  go_enter Try.func43, Try.ntmps43
  go_wp2
  refine wp_loop_rounds 1 ?_
  rw [rounds_succ]
  go_wp2
  go_ret
  exact ⟨rfl, rfl⟩

set_option maxHeartbeats 1000000 in
theorem evLim_row (b off c : Nat) (zs : List Int) (w : World) (hm : zs.length ≤ 9223372036854775807) (hc : ∀ i, i < zs.length → w.cell? ⟨b, off + i, none⟩ = some (.int .i64 (zs.getD i 0))) :
    Calls Try.prog 43 #[.slice (some ⟨b, off, none⟩) zs.length c, .func (.func 44) #[] #[]] w fun e w' => e = .returned (.bool (zs.all limB)) ∧ w' = w := by
  go_enter Try.func43, Try.ntmps43
  go_wp2
  go_loop [9] (fun i => ∃ k : Nat, k ≤ zs.length ∧ i = .int .i64 k ∧ (zs.take k).all limB = true) (fun i => zs.length - (intOf i).toNat)
  case atStart => exact ⟨0, by omega, rfl, by simp⟩
  case round =>
    obtain ⟨k, hk, rfl, ha⟩ := hrel
    have HA : Hid ((zs.take k).all limB = true) := ha
    clear ha
    by_cases hlt : k < zs.length
    · have c1 := hc k hlt
      obtain ⟨x, hx⟩ : ∃ x, zs.getD k 0 = x := ⟨_, rfl⟩
      rw [hx] at c1
      have E := limitF_any x
      obtain ⟨q, hq⟩ : ∃ q, limB x = q := ⟨_, rfl⟩
      rw [hq] at E
      have HQ : Hid (limB (zs.getD k 0) = q) := by rw [hx]; exact hq
      have i1 : (k : Int) < (zs.length : Int) := by omega
      clear hx hq hc
      go_wp2_with fail
      go_at_call 44
      refine (E _).mono ?_
      rintro e w1 ⟨rfl, hw⟩
      obtain rfl := hw.symm
      cases q
      · go_wp2
        go_ret
        exact ⟨rt_bool (all_no hlt HQ.out), rfl⟩
      · go_wp2
        go_round
        case rel => exact ⟨k + 1, by omega, by go_num, all_snoc hlt HA.out HQ.out⟩
        case measure => simp [intOf]; omega
    · obtain rfl : k = zs.length := by omega
      clear hc
      go_wp2
      go_ret
      exact ⟨rt_bool (all_take HA.out), rfl⟩

theorem evLim_any (a : Option Addr) (n c : Nat) (zs : List Int) (w : World) (h : Sl .i64 w a n zs) (hm : n ≤ 9223372036854775807) :
    Calls Try.prog 43 #[.slice a n c, .func (.func 44) #[] #[]] w fun e w' => e = .returned (.bool (zs.all limB)) ∧ w' = w := by
  have l1 := h.1
  subst l1
  rcases h.2.2 with h0 | ⟨b, off, rfl, hc⟩
  · subst h0
    refine (evLim_none a c w).mono ?_
    rintro e w' ⟨rfl, rfl⟩
    exact ⟨by simp, rfl⟩
  · exact evLim_row b off c zs w hm hc

theorem evPos_none (a : Option Addr) (c : Nat) (w : World) : Calls Try.prog 43 #[.slice a 0 c, .func (.func 45) #[] #[]] w fun e w' => e = .returned (.bool true) ∧ w' = w := by
  go_enter Try.func43, Try.ntmps43
  go_wp2
  refine wp_loop_rounds 1 ?_
  rw [rounds_succ]
  go_wp2
  go_ret
  exact ⟨rfl, rfl⟩

set_option maxHeartbeats 1000000 in
theorem evPos_row (b off c : Nat) (zs : List Int) (w : World) (hm : zs.length ≤ 9223372036854775807) (hc : ∀ i, i < zs.length → w.cell? ⟨b, off + i, none⟩ = some (.int .i64 (zs.getD i 0))) :
    Calls Try.prog 43 #[.slice (some ⟨b, off, none⟩) zs.length c, .func (.func 45) #[] #[]] w fun e w' => e = .returned (.bool (zs.all posB)) ∧ w' = w := by
  go_enter Try.func43, Try.ntmps43
  go_wp2
  go_loop [9] (fun i => ∃ k : Nat, k ≤ zs.length ∧ i = .int .i64 k ∧ (zs.take k).all posB = true) (fun i => zs.length - (intOf i).toNat)
  case atStart => exact ⟨0, by omega, rfl, by simp⟩
  case round =>
    obtain ⟨k, hk, rfl, ha⟩ := hrel
    have HA : Hid ((zs.take k).all posB = true) := ha
    clear ha
    by_cases hlt : k < zs.length
    · have c1 := hc k hlt
      obtain ⟨x, hx⟩ : ∃ x, zs.getD k 0 = x := ⟨_, rfl⟩
      rw [hx] at c1
      have E := posF_any x
      obtain ⟨q, hq⟩ : ∃ q, posB x = q := ⟨_, rfl⟩
      rw [hq] at E
      have HQ : Hid (posB (zs.getD k 0) = q) := by rw [hx]; exact hq
      have i1 : (k : Int) < (zs.length : Int) := by omega
      clear hx hq hc
      go_wp2_with fail
      go_at_call 45
      refine (E _).mono ?_
      rintro e w1 ⟨rfl, hw⟩
      obtain rfl := hw.symm
      cases q
      · go_wp2
        go_ret
        exact ⟨rt_bool (all_no hlt HQ.out), rfl⟩
      · go_wp2
        go_round
        case rel => exact ⟨k + 1, by omega, by go_num, all_snoc hlt HA.out HQ.out⟩
        case measure => simp [intOf]; omega
    · obtain rfl : k = zs.length := by omega
      clear hc
      go_wp2
      go_ret
      exact ⟨rt_bool (all_take HA.out), rfl⟩

theorem evPos_any (a : Option Addr) (n c : Nat) (zs : List Int) (w : World) (h : Sl .i64 w a n zs) (hm : n ≤ 9223372036854775807) :
    Calls Try.prog 43 #[.slice a n c, .func (.func 45) #[] #[]] w fun e w' => e = .returned (.bool (zs.all posB)) ∧ w' = w := by
  have l1 := h.1
  subst l1
  rcases h.2.2 with h0 | ⟨b, off, rfl, hc⟩
  · subst h0
    refine (evPos_none a c w).mono ?_
    rintro e w' ⟨rfl, rfl⟩
    exact ⟨by simp, rfl⟩
  · exact evPos_row b off c zs w hm hc

theorem areLimits_any (a : Option Addr) (n c : Nat) (zs : List Int) (w : World) (h : Sl .i64 w a n zs) (hm : n ≤ 9223372036854775807) :
    Calls Try.prog 37 #[.slice a n c] w fun e w' => e = .returned (.bool (zs.all limB)) ∧ w' = w := by
  have E := evLim_any a n c zs w h hm
  clear h
  generalize zs.all limB = q at E ⊢
  go_enter Try.func37, Try.ntmps37
  go_wp2_with fail
  go_at_call 43
  refine E.mono ?_
  rintro e w1 ⟨rfl, hw⟩
  obtain rfl := hw.symm
  go_wp2
  go_ret
  exact ⟨rfl, rfl⟩

theorem arePositions_any (a : Option Addr) (n c : Nat) (zs : List Int) (w : World) (h : Sl .i64 w a n zs) (hm : n ≤ 9223372036854775807) :
    Calls Try.prog 38 #[.slice a n c] w fun e w' => e = .returned (.bool (zs.all posB)) ∧ w' = w := by
  have E := evPos_any a n c zs w h hm
  clear h
  generalize zs.all posB = q at E ⊢
  go_enter Try.func38, Try.ntmps38
  go_wp2_with fail
  go_at_call 43
  refine E.mono ?_
  rintro e w1 ⟨rfl, hw⟩
  obtain rfl := hw.symm
  go_wp2
  go_ret
  exact ⟨rfl, rfl⟩

theorem evLims_none (a : Option Addr) (c : Nat) (w : World) : Calls Try.prog 36 #[.slice a 0 c, .func (.func 37) #[] #[]] w fun e w' => e = .returned (.bool true) ∧ w' = w := by
  go_enter Try.func36, Try.ntmps36
  go_wp2
  refine wp_loop_rounds 1 ?_
  rw [rounds_succ]
  go_wp2
  go_ret
  exact ⟨rfl, rfl⟩

set_option maxHeartbeats 1000000 in
theorem evLims_row (b off c : Nat) (R : List (List Int)) (w : World) (hm : R.length ≤ 9223372036854775807) (hs : Short R)
    (hc : ∀ i, i < R.length → ∃ x c, w.cell? ⟨b, off + i, none⟩ = some (.slice x (R.getD i []).length c) ∧ Sl .i64 w x (R.getD i []).length (R.getD i []) ∧ (x = none → c = 0)) :
    Calls Try.prog 36 #[.slice (some ⟨b, off, none⟩) R.length c, .func (.func 37) #[] #[]] w fun e w' => e = .returned (.bool (R.all (fun z => z.all limB))) ∧ w' = w := by
  go_enter Try.func36, Try.ntmps36
  go_wp2
  go_loop [9] (fun i => ∃ k : Nat, k ≤ R.length ∧ i = .int .i64 k ∧ (R.take k).all (fun z => z.all limB) = true) (fun i => R.length - (intOf i).toNat)
  case atStart => exact ⟨0, by omega, rfl, by simp⟩
  case round =>
    obtain ⟨k, hk, rfl, ha⟩ := hrel
    have HA : Hid ((R.take k).all (fun z => z.all limB) = true) := ha
    clear ha
    by_cases hlt : k < R.length
    · obtain ⟨x, d, c1, s1, _⟩ := hc k hlt
      have hsk := hs.at hlt
      obtain ⟨z, hz⟩ : ∃ z, R.getD k [] = z := ⟨_, rfl⟩
      rw [hz] at c1 s1 hsk
      have E := areLimits_any x _ d z w s1 hsk
      obtain ⟨q, hq⟩ : ∃ q, (fun z => z.all limB) z = q := ⟨_, rfl⟩
      have hq' := hq
      simp only at hq'
      rw [hq'] at E
      have HQ : Hid ((fun z => z.all limB) (R.getD k []) = q) := by rw [hz]; exact hq
      have i1 : (k : Int) < (R.length : Int) := by omega
      obtain ⟨l, hl⟩ : ∃ l, z.length = l := ⟨_, rfl⟩
      rw [hl] at c1 E
      clear hz hq hq' hc s1 hsk hl hs
      go_wp2_with fail
      go_at_call 37
      refine E.mono ?_
      rintro e w1 ⟨rfl, hw⟩
      obtain rfl := hw.symm
      cases q
      · go_wp2
        go_ret
        exact ⟨rt_bool (all_no hlt HQ.out), rfl⟩
      · go_wp2
        go_round
        case rel => exact ⟨k + 1, by omega, by go_num, all_snoc hlt HA.out HQ.out⟩
        case measure => simp [intOf]; omega
    · obtain rfl : k = R.length := by omega
      clear hc
      go_wp2
      go_ret
      exact ⟨rt_bool (all_take HA.out), rfl⟩

theorem evLims_any (a : Option Addr) (n c : Nat) (R : List (List Int)) (w : World) (h : RowsI w a n R) (hm : n ≤ 9223372036854775807) (hs : Short R) :
    Calls Try.prog 36 #[.slice a n c, .func (.func 37) #[] #[]] w fun e w' => e = .returned (.bool (R.all (fun z => z.all limB))) ∧ w' = w := by
  have l1 := h.1
  subst l1
  rcases h.2.2 with h0 | ⟨b, off, rfl, hc⟩
  · subst h0
    refine (evLims_none a c w).mono ?_
    rintro e w' ⟨rfl, rfl⟩
    exact ⟨by simp, rfl⟩
  · exact evLims_row b off c R w hm hs hc

theorem evPoss_none (a : Option Addr) (c : Nat) (w : World) : Calls Try.prog 36 #[.slice a 0 c, .func (.func 38) #[] #[]] w fun e w' => e = .returned (.bool true) ∧ w' = w := by
  go_enter Try.func36, Try.ntmps36
  go_wp2
  refine wp_loop_rounds 1 ?_
  rw [rounds_succ]
  go_wp2
  go_ret
  exact ⟨rfl, rfl⟩

set_option maxHeartbeats 1000000 in
theorem evPoss_row (b off c : Nat) (R : List (List Int)) (w : World) (hm : R.length ≤ 9223372036854775807) (hs : Short R)
    (hc : ∀ i, i < R.length → ∃ x c, w.cell? ⟨b, off + i, none⟩ = some (.slice x (R.getD i []).length c) ∧ Sl .i64 w x (R.getD i []).length (R.getD i []) ∧ (x = none → c = 0)) :
    Calls Try.prog 36 #[.slice (some ⟨b, off, none⟩) R.length c, .func (.func 38) #[] #[]] w fun e w' => e = .returned (.bool (R.all (fun z => z.all posB))) ∧ w' = w := by
  go_enter Try.func36, Try.ntmps36
  go_wp2
  go_loop [9] (fun i => ∃ k : Nat, k ≤ R.length ∧ i = .int .i64 k ∧ (R.take k).all (fun z => z.all posB) = true) (fun i => R.length - (intOf i).toNat)
  case atStart => exact ⟨0, by omega, rfl, by simp⟩
  case round =>
    obtain ⟨k, hk, rfl, ha⟩ := hrel
    have HA : Hid ((R.take k).all (fun z => z.all posB) = true) := ha
    clear ha
    by_cases hlt : k < R.length
    · obtain ⟨x, d, c1, s1, _⟩ := hc k hlt
      have hsk := hs.at hlt
      obtain ⟨z, hz⟩ : ∃ z, R.getD k [] = z := ⟨_, rfl⟩
      rw [hz] at c1 s1 hsk
      have E := arePositions_any x _ d z w s1 hsk
      obtain ⟨q, hq⟩ : ∃ q, (fun z => z.all posB) z = q := ⟨_, rfl⟩
      have hq' := hq
      simp only at hq'
      rw [hq'] at E
      have HQ : Hid ((fun z => z.all posB) (R.getD k []) = q) := by rw [hz]; exact hq
      have i1 : (k : Int) < (R.length : Int) := by omega
      obtain ⟨l, hl⟩ : ∃ l, z.length = l := ⟨_, rfl⟩
      rw [hl] at c1 E
      clear hz hq hq' hc s1 hsk hl hs
      go_wp2_with fail
      go_at_call 38
      refine E.mono ?_
      rintro e w1 ⟨rfl, hw⟩
      obtain rfl := hw.symm
      cases q
      · go_wp2
        go_ret
        exact ⟨rt_bool (all_no hlt HQ.out), rfl⟩
      · go_wp2
        go_round
        case rel => exact ⟨k + 1, by omega, by go_num, all_snoc hlt HA.out HQ.out⟩
        case measure => simp [intOf]; omega
    · obtain rfl : k = R.length := by omega
      clear hc
      go_wp2
      go_ret
      exact ⟨rt_bool (all_take HA.out), rfl⟩

theorem evPoss_any (a : Option Addr) (n c : Nat) (R : List (List Int)) (w : World) (h : RowsI w a n R) (hm : n ≤ 9223372036854775807) (hs : Short R) :
    Calls Try.prog 36 #[.slice a n c, .func (.func 38) #[] #[]] w fun e w' => e = .returned (.bool (R.all (fun z => z.all posB))) ∧ w' = w := by
  have l1 := h.1
  subst l1
  rcases h.2.2 with h0 | ⟨b, off, rfl, hc⟩
  · subst h0
    refine (evPoss_none a c w).mono ?_
    rintro e w' ⟨rfl, rfl⟩
    exact ⟨by simp, rfl⟩
  · exact evPoss_row b off c R w hm hs hc

theorem evSq_none (a : Option Addr) (c g m : Nat) (w : World) : Calls Try.prog 36 #[.slice a 0 c, .func (.func 42) #[] #[.pointer (some ⟨g, 0, none⟩)]] w fun e w' => e = .returned (.bool true) ∧ w' = w := by
  go_enter Try.func36, Try.ntmps36
  go_wp2
  refine wp_loop_rounds 1 ?_
  rw [rounds_succ]
  go_wp2
  go_ret
  exact ⟨rfl, rfl⟩

set_option maxHeartbeats 1000000 in
theorem evSq_row (b off c g m : Nat) (R : List (List Int)) (w : World) (hm : R.length ≤ 9223372036854775807) (hs : Short R) (hg : w.cell? ⟨g, 0, none⟩ = some (.int .i64 m))
    (hc : ∀ i, i < R.length → ∃ x c, w.cell? ⟨b, off + i, none⟩ = some (.slice x (R.getD i []).length c) ∧ Sl .i64 w x (R.getD i []).length (R.getD i []) ∧ (x = none → c = 0)) :
    Calls Try.prog 36 #[.slice (some ⟨b, off, none⟩) R.length c, .func (.func 42) #[] #[.pointer (some ⟨g, 0, none⟩)]] w fun e w' => e = .returned (.bool (R.all (fun z => decide (z.length = m)))) ∧ w' = w := by
  go_enter Try.func36, Try.ntmps36
  go_wp2
  go_loop [9] (fun i => ∃ k : Nat, k ≤ R.length ∧ i = .int .i64 k ∧ (R.take k).all (fun z => decide (z.length = m)) = true) (fun i => R.length - (intOf i).toNat)
  case atStart => exact ⟨0, by omega, rfl, by simp⟩
  case round =>
    obtain ⟨k, hk, rfl, ha⟩ := hrel
    have HA : Hid ((R.take k).all (fun z => decide (z.length = m)) = true) := ha
    clear ha
    by_cases hlt : k < R.length
    · obtain ⟨x, d, c1, s1, _⟩ := hc k hlt
      have hsk := hs.at hlt
      obtain ⟨z, hz⟩ : ∃ z, R.getD k [] = z := ⟨_, rfl⟩
      rw [hz] at c1 s1 hsk
      have E := rowF_any x z.length d g m w hg
      obtain ⟨q, hq⟩ : ∃ q, (fun z => decide (z.length = m)) z = q := ⟨_, rfl⟩
      have hq' := hq
      simp only at hq'
      rw [hq'] at E
      have HQ : Hid ((fun z => decide (z.length = m)) (R.getD k []) = q) := by rw [hz]; exact hq
      have i1 : (k : Int) < (R.length : Int) := by omega
      obtain ⟨l, hl⟩ : ∃ l, z.length = l := ⟨_, rfl⟩
      rw [hl] at c1 E
      clear hz hq hq' hc s1 hsk hl hs
      go_wp2_with fail
      go_at_call 42
      refine E.mono ?_
      rintro e w1 ⟨rfl, hw⟩
      obtain rfl := hw.symm
      cases q
      · go_wp2
        go_ret
        exact ⟨rt_bool (all_no hlt HQ.out), rfl⟩
      · go_wp2
        go_round
        case rel => exact ⟨k + 1, by omega, by go_num, all_snoc hlt HA.out HQ.out⟩
        case measure => simp [intOf]; omega
    · obtain rfl : k = R.length := by omega
      clear hc
      go_wp2
      go_ret
      exact ⟨rt_bool (all_take HA.out), rfl⟩

theorem evSq_any (a : Option Addr) (n c g m : Nat) (R : List (List Int)) (w : World) (h : RowsI w a n R) (hm : n ≤ 9223372036854775807) (hs : Short R) (hg : w.cell? ⟨g, 0, none⟩ = some (.int .i64 m)) :
    Calls Try.prog 36 #[.slice a n c, .func (.func 42) #[] #[.pointer (some ⟨g, 0, none⟩)]] w fun e w' => e = .returned (.bool (R.all (fun z => decide (z.length = m)))) ∧ w' = w := by
  have l1 := h.1
  subst l1
  rcases h.2.2 with h0 | ⟨b, off, rfl, hc⟩
  · subst h0
    refine (evSq_none a c g m w).mono ?_
    rintro e w' ⟨rfl, rfl⟩
    exact ⟨by simp, rfl⟩
  · exact evSq_row b off c g m R w hm hs hg hc

set_option maxHeartbeats 1000000 in
theorem isSquare_any (a : Option Addr) (n c m : Nat) (R : List (List Int)) (w : World) (h : RowsI w a n R) (hm : n ≤ 9223372036854775807) (hs : Short R) :
    Calls Try.prog 35 #[.slice a n c, .int .i64 m] w fun e w' => e = .returned (.bool (squareB R m)) ∧ Below w.heap.size w w' := by
  have hl := h.1
  unfold squareB
  by_cases he : n = m
  · subst he
    rw [← hl, decide_eq_true rfl]
    have E := evSq_any a n c w.heap.size n R (w.alloc (.cells #[.int .i64 n] 3)) (h.below (box_below _ _)) hm hs (by rw [cell_new]; rfl)
    clear h hl
    generalize (R.all fun z => decide (z.length = n)) = q at E ⊢
    go_enter Try.func35, Try.ntmps35
    go_wp2_with fail
    go_at_call 36
    refine E.mono ?_
    rintro e w1 ⟨rfl, hw⟩
    obtain rfl := hw.symm
    go_wp2
    go_ret
    exact ⟨rt_bool (by simp), box_below _ _⟩
  · have h' : ((n : Int) == (m : Int)) = false := by rw [beq_eq_false_iff_ne]; omega
    rw [← hl, decide_eq_false he]
    clear h hl he
    go_enter Try.func35, Try.ntmps35
    go_wp2
    go_ret
    exact ⟨rt_bool (by simp), box_below _ _⟩

theorem evAcc_none (a : Option Addr) (c : Nat) (w : World) : Calls Try.prog 33 #[.slice a 0 c, .func (.func 34) #[] #[]] w fun e w' => e = .returned (.bool true) ∧ w' = w := by
  go_enter Try.func33, Try.ntmps33
  go_wp2
  refine wp_loop_rounds 1 ?_
  rw [rounds_succ]
  go_wp2
  go_ret
  exact ⟨rfl, rfl⟩

set_option maxHeartbeats 1000000 in
theorem evAcc_row (b off c : Nat) (A : List A3) (w : World) (hm : A.length ≤ 9223372036854775807)
    (hc : ∀ i, i < A.length → w.cell? ⟨b, off + i * 3, none⟩ = some (.int .i64 (A.getD i a30).1) ∧ w.cell? ⟨b, off + i * 3 + 1, none⟩ = some (.int .i64 (A.getD i a30).2.1) ∧ w.cell? ⟨b, off + i * 3 + 2, none⟩ = some (.int .i64 (A.getD i a30).2.2)) :
    Calls Try.prog 33 #[.slice (some ⟨b, off, none⟩) A.length c, .func (.func 34) #[] #[]] w fun e w' => e = .returned (.bool (A.all (fun x : A3 => acctB x.1 x.2.1 x.2.2))) ∧ Below w.heap.size w w' := by
  go_enter Try.func33, Try.ntmps33
  go_wp2
  go_loopw [9] (fun i wr => ∃ k : Nat, k ≤ A.length ∧ i = .int .i64 k ∧ (A.take k).all (fun x : A3 => acctB x.1 x.2.1 x.2.2) = true ∧ Below w.heap.size w wr) (fun i _ => A.length - (intOf i).toNat)
  case atStart => exact ⟨0, by omega, rfl, by simp, Below.refl _ _⟩
  case round =>
    obtain ⟨k, hk, rfl, ha, hb⟩ := hrel
    have HA : Hid ((A.take k).all (fun x : A3 => acctB x.1 x.2.1 x.2.2) = true) := ha
    have HB : Hid (Below w.heap.size w wr) := hb
    clear ha
    by_cases hlt : k < A.length
    · obtain ⟨p0, p1, p2⟩ := hc k hlt
      have hlb := block_lt_of_cell p0
      replace p0 := (hb.cell (p := ⟨b, off + k * 3, none⟩) hlb).trans p0
      replace p1 := (hb.cell (p := ⟨b, off + k * 3 + 1, none⟩) hlb).trans p1
      replace p2 := (hb.cell (p := ⟨b, off + k * 3 + 2, none⟩) hlb).trans p2
      obtain ⟨x, hx⟩ : ∃ x, A.getD k a30 = x := ⟨_, rfl⟩
      rw [hx] at p0 p1 p2
      obtain ⟨x0, x1, x2⟩ := x
      simp only at p0 p1 p2
      have E := acctIs_any x0 x1 x2
      obtain ⟨q, hq⟩ : ∃ q, acctB x0 x1 x2 = q := ⟨_, rfl⟩
      rw [hq] at E
      have HQ : Hid ((fun x : A3 => acctB x.1 x.2.1 x.2.2) (A.getD k a30) = q) := by rw [hx]; exact hq
      have i1 : (k : Int) < (A.length : Int) := by omega
      clear hx hq hc hb hlb
      go_wp2_with fail
      go_at_call 34
      refine (E _).mono ?_
      rintro e w1 ⟨rfl, hb1⟩
      have HB1 : Hid (Below w.heap.size w w1) := HB.out.trans (((box_below _ _).trans (hb1.mono (by simp))).mono HB.out.size)
      clear hb1 HB E
      cases q
      · go_wp2
        go_ret
        exact ⟨rt_bool (all_no hlt HQ.out), HB1.out⟩
      · go_wp2
        go_roundw
        case rel => exact ⟨k + 1, by omega, by go_num, all_snoc hlt HA.out HQ.out, HB1.out⟩
        case measure => simp [intOf]; omega
    · obtain rfl : k = A.length := by omega
      clear hc hb
      go_wp2
      go_ret
      exact ⟨rt_bool (all_take HA.out), HB.out⟩

theorem evAcc_any (a : Option Addr) (n c : Nat) (A : List A3) (w : World) (h : Accs w a n A) (hm : n ≤ 9223372036854775807) :
    Calls Try.prog 33 #[.slice a n c, .func (.func 34) #[] #[]] w fun e w' => e = .returned (.bool (A.all (fun x : A3 => acctB x.1 x.2.1 x.2.2))) ∧ Below w.heap.size w w' := by
  have l1 := h.1
  subst l1
  rcases h.2 with h0 | ⟨b, off, rfl, hc⟩
  · subst h0
    refine (evAcc_none a c w).mono ?_
    rintro e w' ⟨rfl, rfl⟩
    exact ⟨by simp, Below.refl _ _⟩
  · exact evAcc_row b off c A w hm hc

end Go.Proofs.Ytpaieecbedgeaaa
