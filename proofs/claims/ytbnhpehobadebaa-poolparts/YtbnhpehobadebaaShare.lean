/-
  The contracts of giro/cash's share, Worth and Less over this seat's program.
-/
import Derived.Test.YtbnhpehobadebaaBits
namespace Go.Proofs.Ytbnhpehobadebaa
open Go.RowKit
set_option linter.unusedVariables false

set_option maxHeartbeats 1000000 in
theorem share_rate0 (high low : Int) (w : World) :
    Calls Try.prog 21 #[.int .u64 high, .int .u64 low, .int .u64 0] w fun e w' => e = .returned (.tuple #[.int .i64 0, .bool true]) ∧ w' = w := by
  go_enter Try.func21, Try.ntmps21
  go_wp2
  go_ret2
  exact ⟨rfl, rfl⟩

set_option maxHeartbeats 1000000 in
theorem share_high (high low rate : Int) (h : 10000 ≤ high) (hr : 0 < rate) (w : World) :
    Calls Try.prog 21 #[.int .u64 high, .int .u64 low, .int .u64 rate] w fun e w' => e = .returned (.tuple #[.int .i64 0, .bool false]) ∧ w' = w := by
  have hr' : (rate == 0) = false := by simp; omega
  go_enter Try.func21, Try.ntmps21
  go_wp2
  go_ret2
  exact ⟨rfl, rfl⟩

set_option maxHeartbeats 2000000 in
theorem share_core (high low rate q r o m p s c : Int) (hh0 : 0 ≤ high) (hh : high < 10000) (hl0 : 0 ≤ low) (hl : low < 18446744073709551616) (hr : 0 < rate) (hr1 : rate ≤ 10000)
    (D : Hid (high * 18446744073709551616 + low = q * 10000 + r)) (q0 : 0 ≤ q) (q1 : q < 18446744073709551616) (r0 : 0 ≤ r) (r1 : r < 10000)
    (M : Hid (q * rate = o * 18446744073709551616 + m)) (o0 : 0 ≤ o) (m0 : 0 ≤ m) (m1 : m < 18446744073709551616)
    (hp : r * rate = p) (p0 : 0 ≤ p) (p1 : p < 100000000)
    (S : Hid (m + p / 10000 + 0 = c * 18446744073709551616 + s)) (s0 : 0 ≤ s) (s1 : s < 18446744073709551616) (c0 : 0 ≤ c) (c1 : c ≤ 1) (w : World) :
    Calls Try.prog 21 #[.int .u64 high, .int .u64 low, .int .u64 rate] w fun e w' =>
      e = .returned (.tuple #[.int .i64 (if 0 < o ∨ 0 < c ∨ 9223372036854775807 < s then 0 else s), .bool (if 0 < o ∨ 0 < c ∨ 9223372036854775807 < s then false else true)]) ∧ ∃ n, w' = w.drewN n := by
  have hr' : (rate == 0) = false := by simp; omega
  by_cases ho : 0 < o
  · have ho' : (o == 0) = false := by simp; omega
    rw [if_pos (.inl ho), if_pos (.inl ho)]
    go_enter Try.func21, Try.ntmps21
    go_wp2_with (first
      | (go_at_call 25; refine (div64_as high low q r D.out r0 r1 hh0 hh hl0 hl _).mono ?_; rintro e w' ⟨rfl, n, rfl⟩)
      | (go_at_call 20; refine (mul64_as q rate o m M.out m0 m1 q0 q1 (by omega) (by omega) _).mono ?_; rintro e w' ⟨rfl, rfl⟩)
      | simp only [add64_as m (p / 10000) 0 s c S m0 (by omega) (by decide) (by decide) s0 s1])
    go_ret2
    exact ⟨rfl, _, rfl⟩
  obtain rfl : o = 0 := by omega
  by_cases hc : 0 < c
  · obtain rfl : c = 1 := by omega
    rw [if_pos (.inr (.inl hc)), if_pos (.inr (.inl hc))]
    go_enter Try.func21, Try.ntmps21
    go_wp2_with (first
      | (go_at_call 25; refine (div64_as high low q r D.out r0 r1 hh0 hh hl0 hl _).mono ?_; rintro e w' ⟨rfl, n, rfl⟩)
      | (go_at_call 20; refine (mul64_as q rate 0 m M.out m0 m1 q0 q1 (by omega) (by omega) _).mono ?_; rintro e w' ⟨rfl, rfl⟩)
      | simp only [add64_as m (p / 10000) 0 s 1 S m0 (by omega) (by decide) (by decide) s0 s1])
    go_ret2
    exact ⟨rfl, _, rfl⟩
  obtain rfl : c = 0 := by omega
  by_cases hs : 9223372036854775807 < s
  · rw [if_pos (.inr (.inr hs)), if_pos (.inr (.inr hs))]
    go_enter Try.func21, Try.ntmps21
    go_wp2_with (first
      | (go_at_call 25; refine (div64_as high low q r D.out r0 r1 hh0 hh hl0 hl _).mono ?_; rintro e w' ⟨rfl, n, rfl⟩)
      | (go_at_call 20; refine (mul64_as q rate 0 m M.out m0 m1 q0 q1 (by omega) (by omega) _).mono ?_; rintro e w' ⟨rfl, rfl⟩)
      | simp only [add64_as m (p / 10000) 0 s 0 S m0 (by omega) (by decide) (by decide) s0 s1])
    go_ret2
    exact ⟨rfl, _, rfl⟩
  · have hn : ¬ ((0 : Int) < 0 ∨ (0 : Int) < 0 ∨ 9223372036854775807 < s) := by omega
    rw [if_neg hn, if_neg hn]
    clear hn
    go_enter Try.func21, Try.ntmps21
    go_wp2_with (first
      | (go_at_call 25; refine (div64_as high low q r D.out r0 r1 hh0 hh hl0 hl _).mono ?_; rintro e w' ⟨rfl, n, rfl⟩)
      | (go_at_call 20; refine (mul64_as q rate 0 m M.out m0 m1 q0 q1 (by omega) (by omega) _).mono ?_; rintro e w' ⟨rfl, rfl⟩)
      | simp only [add64_as m (p / 10000) 0 s 0 S m0 (by omega) (by decide) (by decide) s0 s1])
    go_ret2
    exact ⟨rfl, _, rfl⟩

/-- What an int64 holds of a number: the number, or 0. -/
def heldV (s : Int) : Int := if -9223372036854775808 ≤ s ∧ s ≤ 9223372036854775807 then s else 0
/-- Does an int64 hold it? -/
def heldB (s : Int) : Bool := decide (-9223372036854775808 ≤ s ∧ s ≤ 9223372036854775807)

theorem heldV_yes {s : Int} (h0 : -9223372036854775808 ≤ s) (h1 : s ≤ 9223372036854775807) : heldV s = s := by unfold heldV; rw [if_pos ⟨h0, h1⟩]
theorem heldB_yes {s : Int} (h0 : -9223372036854775808 ≤ s) (h1 : s ≤ 9223372036854775807) : heldB s = true := by unfold heldB; exact decide_eq_true ⟨h0, h1⟩
theorem heldV_no {s : Int} (h : ¬ (-9223372036854775808 ≤ s ∧ s ≤ 9223372036854775807)) : heldV s = 0 := by unfold heldV; rw [if_neg h]
theorem heldB_no {s : Int} (h : ¬ (-9223372036854775808 ≤ s ∧ s ≤ 9223372036854775807)) : heldB s = false := by unfold heldB; exact decide_eq_false h
theorem heldV_wf (s : Int) : -9223372036854775808 ≤ heldV s ∧ heldV s ≤ 9223372036854775807 := by unfold heldV; split <;> omega

/-- (n times rate) by 10000, where n is q times 10000 and r more. -/
theorem share_sum (n q r rate : Int) (h : n = q * 10000 + r) : n * rate / 10000 = q * rate + r * rate / 10000 := by
  subst h
  have e : (q * 10000 + r) * rate = r * rate + q * rate * 10000 := by
    rw [Int.add_mul, Int.mul_right_comm]; omega
  rw [e, Int.add_mul_ediv_right _ _ (by decide)]
  omega

/-- share: the number of the two words, times rate, by 10000. -/
theorem share_any (high low rate : Int) (hh0 : 0 ≤ high) (hh : high < 18446744073709551616) (hl0 : 0 ≤ low) (hl : low < 18446744073709551616) (hr0 : 0 ≤ rate) (hr1 : rate ≤ 10000) (w : World) :
    Calls Try.prog 21 #[.int .u64 high, .int .u64 low, .int .u64 rate] w fun e w' =>
      e = .returned (.tuple #[.int .i64 (heldV ((high * 18446744073709551616 + low) * rate / 10000)), .bool (heldB ((high * 18446744073709551616 + low) * rate / 10000))]) ∧ ∃ n, w' = w.drewN n := by
  by_cases h0 : rate = 0
  · subst h0
    refine (share_rate0 high low w).mono ?_
    rintro e w' ⟨rfl, rfl⟩
    refine ⟨?_, 0, rfl⟩
    simp [heldV, heldB]
  by_cases hb : 10000 ≤ high
  · refine (share_high high low rate hb (by omega) w).mono ?_
    rintro e w' ⟨rfl, rfl⟩
    have hbig : ¬ (-9223372036854775808 ≤ (high * 18446744073709551616 + low) * rate / 10000 ∧ (high * 18446744073709551616 + low) * rate / 10000 ≤ 9223372036854775807) := by
      have h1 : (high * 18446744073709551616 + low) * 1 ≤ (high * 18446744073709551616 + low) * rate := Int.mul_le_mul_of_nonneg_left (by omega) (by omega)
      omega
    exact ⟨by rw [heldV_no hbig, heldB_no hbig], 0, rfl⟩
  · have hq := share_sum (high * 18446744073709551616 + low) ((high * 18446744073709551616 + low) / 10000) ((high * 18446744073709551616 + low) % 10000) rate (by omega)
    rw [hq]
    have q0 : 0 ≤ (high * 18446744073709551616 + low) / 10000 := by omega
    have q1 : (high * 18446744073709551616 + low) / 10000 < 18446744073709551616 := by omega
    have r0 : 0 ≤ (high * 18446744073709551616 + low) % 10000 := by omega
    have r1 : (high * 18446744073709551616 + low) % 10000 < 10000 := by omega
    have D : high * 18446744073709551616 + low = (high * 18446744073709551616 + low) / 10000 * 10000 + (high * 18446744073709551616 + low) % 10000 := by omega
    generalize (high * 18446744073709551616 + low) / 10000 = q at *
    generalize (high * 18446744073709551616 + low) % 10000 = r at *
    have P0 : 0 ≤ r * rate := Int.mul_nonneg r0 hr0
    have P1 : r * rate < 100000000 := by
      have h := Int.mul_le_mul (show r ≤ 9999 by omega) hr1 hr0 (by decide : (0 : Int) ≤ 9999)
      omega
    have QR : 0 ≤ q * rate := Int.mul_nonneg q0 hr0
    have M : q * rate = q * rate / 18446744073709551616 * 18446744073709551616 + q * rate % 18446744073709551616 := by omega
    have o0 : 0 ≤ q * rate / 18446744073709551616 := by omega
    have m0 : 0 ≤ q * rate % 18446744073709551616 := by omega
    have m1 : q * rate % 18446744073709551616 < 18446744073709551616 := by omega
    generalize q * rate / 18446744073709551616 = o at *
    generalize q * rate % 18446744073709551616 = m at *
    generalize hp : r * rate = p at *
    have S : m + p / 10000 + 0 = (m + p / 10000) / 18446744073709551616 * 18446744073709551616 + (m + p / 10000) % 18446744073709551616 := by omega
    refine (share_core high low rate q r o m p ((m + p / 10000) % 18446744073709551616) ((m + p / 10000) / 18446744073709551616) hh0 (by omega) hl0 hl (by omega) hr1 D q0 q1 r0 r1 M o0 m0 m1 hp P0 P1 S (by omega) (by omega) (by omega) (by omega) w).mono ?_
    rintro e w' ⟨rfl, hw⟩
    refine ⟨?_, hw⟩
    by_cases hc : 0 < o ∨ 0 < (m + p / 10000) / 18446744073709551616 ∨ 9223372036854775807 < (m + p / 10000) % 18446744073709551616
    · have hbig : ¬ (-9223372036854775808 ≤ q * rate + p / 10000 ∧ q * rate + p / 10000 ≤ 9223372036854775807) := by omega
      rw [if_pos hc, if_pos hc, heldV_no hbig, heldB_no hbig]
    · have e1 : q * rate + p / 10000 = (m + p / 10000) % 18446744073709551616 := by omega
      rw [if_neg hc, if_neg hc, e1, heldV_yes (by omega) (by omega), heldB_yes (by omega) (by omega)]

end Go.Proofs.Ytbnhpehobadebaa
