/-
  The contracts of math/bits.Add64, Mul64 and (at the divisor 10000) Div64 over this seat's program.
-/
import Derived.Test.YtbnhpehobadebaaRows
import Derived.WalkKit
import Derived.WalkSpells
import Derived.Laws.Externs
import Derived.Test.YtbnhpehobadebaaArith
import Derived.Deep.QuietTactic
import Derived.BigQuiet
import Derived.Deep.Light
namespace Go.Proofs.Ytbnhpehobadebaa
open Go.RowKit
set_option linter.unusedVariables false

theorem add64 (x y c : Int) (hx : 0 ≤ x) (hy : 0 ≤ y) (hc0 : 0 ≤ c) (hc : c ≤ 1) (w : World) : (callFunc 26 #[.int .u64 x, .int .u64 y, .int .u64 c]).run Try.prog w =
    .ok (.value (.tuple #[.int .u64 ((x + y + c) % 18446744073709551616), .int .u64 ((x + y + c) / 18446744073709551616)])) w := by
  rw [run_callFunc_extern Try.func26 (by kernel_rfl) (by kernel_rfl) (by kernel_rfl) (e := add64Entry) (by kernel_rfl), run_add64 x y c hx hy hc0 hc]
  rfl

theorem add64_0 (x y : Int) (hx : 0 ≤ x) (hy : 0 ≤ y) (w : World) : (callFunc 26 #[.int .u64 x, .int .u64 y, .int .u64 0]).run Try.prog w =
    .ok (.value (.tuple #[.int .u64 ((x + y) % 18446744073709551616), .int .u64 ((x + y) / 18446744073709551616)])) w := by
  simpa using add64 x y 0 hx hy (Int.le_refl 0) (by decide) w

theorem ret_int {k : IntKind} {a b : Int} (h : a = b) : Ending.returned (.int k a) = .returned (.int k b) := by rw [h]
theorem ret2_int {k l : IntKind} {a b c d : Int} (h1 : a = c) (h2 : b = d) : Ending.returned (.tuple #[.int k a, .int l b]) = .returned (.tuple #[.int k c, .int l d]) := by rw [h1, h2]

set_option maxHeartbeats 1000000 in
theorem mul64 (x y : Int) (hx0 : 0 ≤ x) (hx : x < 18446744073709551616) (hy0 : 0 ≤ y) (hy : y < 18446744073709551616) (w : World) :
    Calls Try.prog 20 #[.int .u64 x, .int .u64 y] w fun e w' => e = .returned (.tuple #[.int .u64 (x * y / 18446744073709551616), .int .u64 (x * y % 18446744073709551616)]) ∧ w' = w := by
  go_enter Try.func20, Try.ntmps20
  go_wp2
  go_ret2
  exact ⟨ret2_int (Ar.mul_hi x y hx0 hx hy0 hy) (Ar.mul_lo x y), rfl⟩

set_option maxHeartbeats 1000000 in
theorem div64_zero (lo : Int) (h0 : 0 ≤ lo) (h1 : lo < 18446744073709551616) (w : World) :
    Calls Try.prog 25 #[.int .u64 0, .int .u64 lo, .int .u64 10000] w fun e w' => e = .returned (.tuple #[.int .u64 (lo / 10000), .int .u64 (lo % 10000)]) ∧ ∃ n, w' = w.drewN n := by
  go_enter Try.func25, Try.ntmps25
  go_wp2
  go_quiet (fail)
  go_wp2
  go_ret2
  exact ⟨rfl, _, rfl⟩

set_option maxHeartbeats 1000000 in
set_option maxRecDepth 100000 in
theorem len64 (w : World) :
    Calls Try.prog 29 #[.int .u64 10000] w fun e w' => e = .returned (.int .i64 14) ∧ w' = w := by
  go_enter Try.func29, Try.ntmps29
  go_wp2
  go_ret
  refine ⟨ret_int ?_, rfl⟩
  go_light
  unfold wrap64
  decide

set_option maxHeartbeats 1000000 in
theorem lz64 (w : World) :
    Calls Try.prog 28 #[.int .u64 10000] w fun e w' => e = .returned (.int .i64 50) ∧ w' = w := by
  go_enter Try.func28, Try.ntmps28
  go_wp2_with (go_at_call 29; refine (len64 _).mono ?_; rintro e w' ⟨rfl, rfl⟩)
  go_ret
  exact ⟨rfl, rfl⟩

set_option maxHeartbeats 1000000 in
set_option maxRecDepth 100000 in
theorem div64_core (hi lo u v z t r q k : Int) (g0 : 0 < hi) (g1 : hi < 10000) (h0 : 0 ≤ lo) (h1 : lo < 18446744073709551616)
    (e1 : bits .or .u64 (hi * 1125899906842624) (lo / 16384) = u) (u0 : 0 ≤ u) (u1 : u < 11258999068426240000)
    (e2 : IntKind.u64.wrap (lo * 1125899906842624) = v) (v0 : 0 ≤ v) (v1 : v < 18446744073709551616)
    (e3 : bits .and .u64 11258999068426240000 4294967295 = 0) (e4 : bits .and .u64 v 4294967295 = z) (z0 : 0 ≤ z) (z1 : z < 4294967296)
    (e5 : IntKind.u64.wrap (IntKind.u64.wrap (IntKind.u64.wrap (u * 4294967296) + v / 4294967296) - IntKind.u64.wrap (u / 2621440000 * 11258999068426240000)) = t) (t0 : 0 ≤ t) (t1 : t < 11258999068426240000)
    (e6 : IntKind.u64.wrap (IntKind.u64.wrap (IntKind.u64.wrap (t * 4294967296) + z) - IntKind.u64.wrap (t / 2621440000 * 11258999068426240000)) = r) (r0 : 0 ≤ r) (r1 : r < 18446744073709551616)
    (hq : Hid (u / 2621440000 * 4294967296 + t / 2621440000 = q)) (hk : Hid (r / 1125899906842624 = k)) (w : World) :
    Calls Try.prog 25 #[.int .u64 hi, .int .u64 lo, .int .u64 10000] w fun e w' => e = .returned (.tuple #[.int .u64 q, .int .u64 k]) ∧ w' = w := by
  have hne : (hi == 0) = false := by simp; omega
  go_enter Try.func25, Try.ntmps25
  go_wp2_with (go_at_call 28; refine (lz64 _).mono ?_; rintro e w' ⟨rfl, rfl⟩)
  refine wp_loop_rounds 1 ?_
  rw [rounds_succ]
  go_wp2
  refine wp_loop_rounds 1 ?_
  rw [rounds_succ]
  go_wp2
  go_ret2
  exact ⟨ret2_int hq.out hk.out, rfl⟩

theorem div64_more (hi lo : Int) (g0 : 0 < hi) (g1 : hi < 10000) (h0 : 0 ≤ lo) (h1 : lo < 18446744073709551616) (w : World) :
    Calls Try.prog 25 #[.int .u64 hi, .int .u64 lo, .int .u64 10000] w fun e w' => e = .returned (.tuple #[.int .u64 ((hi * 18446744073709551616 + lo) / 10000), .int .u64 ((hi * 18446744073709551616 + lo) % 10000)]) ∧ w' = w := by
  have e2 := IntKind.wrap_u64 (lo * 1125899906842624)
  have v0 : 0 ≤ lo * 1125899906842624 % 18446744073709551616 := by omega
  have v1 : lo * 1125899906842624 % 18446744073709551616 < 18446744073709551616 := by omega
  have e4 := Ar.low32_u64 _ v0 v1
  have u0 : 0 ≤ hi * 1125899906842624 + lo / 16384 := by omega
  have u1 : hi * 1125899906842624 + lo / 16384 < 11258999068426240000 := by omega
  have e5 := Ar.div_t _ _ u0 u1 v0 v1
  have hn : (hi * 18446744073709551616 + lo) * 1125899906842624 = ((hi * 1125899906842624 + lo / 16384) * 4294967296 + lo * 1125899906842624 % 18446744073709551616 / 4294967296) * 4294967296 + lo * 1125899906842624 % 18446744073709551616 % 4294967296 := by omega
  generalize lo * 1125899906842624 % 18446744073709551616 = v at *
  generalize hu : hi * 1125899906842624 + lo / 16384 = u at *
  have t0 : 0 ≤ u % 2621440000 * 4294967296 + v / 4294967296 := by omega
  have t1 : u % 2621440000 * 4294967296 + v / 4294967296 < 11258999068426240000 := by omega
  have z0 : 0 ≤ v % 4294967296 := by omega
  have z1 : v % 4294967296 < 4294967296 := by omega
  have e6 := Ar.div_r _ _ t0 t1 z0 z1
  obtain ⟨a1, a2⟩ := Ar.div_all (hi * 18446744073709551616 + lo) u (v / 4294967296) (v % 4294967296) _ hn (by omega) (by omega) z0 z1 rfl
  exact div64_core hi lo u v (v % 4294967296) _ _ _ _ g0 g1 h0 h1 ((Ar.div_u hi lo (by omega) g1 h0 h1).trans hu) u0 u1 e2 v0 v1 (by decide) e4 z0 z1 e5 t0 t1 e6 (by omega) (by omega) a1 a2 w

/-- Div64 by 10000. -/
theorem div64 (hi lo : Int) (g0 : 0 ≤ hi) (g1 : hi < 10000) (h0 : 0 ≤ lo) (h1 : lo < 18446744073709551616) (w : World) :
    Calls Try.prog 25 #[.int .u64 hi, .int .u64 lo, .int .u64 10000] w fun e w' => e = .returned (.tuple #[.int .u64 ((hi * 18446744073709551616 + lo) / 10000), .int .u64 ((hi * 18446744073709551616 + lo) % 10000)]) ∧ ∃ n, w' = w.drewN n := by
  by_cases h : hi = 0
  · subst h
    refine (div64_zero lo h0 h1 w).mono ?_
    rintro e w' ⟨he, hw⟩
    exact ⟨by simpa using he, hw⟩
  · refine (div64_more hi lo (by omega) g1 h0 h1 w).mono ?_
    rintro e w' ⟨he, hw⟩
    exact ⟨he, 0, by rw [hw]; rfl⟩

/-! The same, with the answers under names of their own. -/
theorem add64_as (x y c s d : Int) (h : Hid (x + y + c = d * 18446744073709551616 + s)) (hx : 0 ≤ x) (hy : 0 ≤ y) (hc0 : 0 ≤ c) (hc : c ≤ 1) (s0 : 0 ≤ s) (s1 : s < 18446744073709551616) (w : World) :
    (callFunc 26 #[.int .u64 x, .int .u64 y, .int .u64 c]).run Try.prog w = .ok (.value (.tuple #[.int .u64 s, .int .u64 d])) w := by
  have h := h.out
  rw [add64 x y c hx hy hc0 hc w]
  have e1 : (x + y + c) % 18446744073709551616 = s := by omega
  have e2 : (x + y + c) / 18446744073709551616 = d := by omega
  rw [e1, e2]

theorem mul64_as (x y o m : Int) (h : x * y = o * 18446744073709551616 + m) (m0 : 0 ≤ m) (m1 : m < 18446744073709551616) (hx0 : 0 ≤ x) (hx : x < 18446744073709551616) (hy0 : 0 ≤ y) (hy : y < 18446744073709551616) (w : World) :
    Calls Try.prog 20 #[.int .u64 x, .int .u64 y] w fun e w' => e = .returned (.tuple #[.int .u64 o, .int .u64 m]) ∧ w' = w := by
  refine (mul64 x y hx0 hx hy0 hy w).mono ?_
  rintro e w' ⟨he, hw⟩
  refine ⟨?_, hw⟩
  rw [he]
  exact ret2_int (by rw [h]; omega) (by rw [h]; omega)

theorem div64_as (hi lo q r : Int) (h : hi * 18446744073709551616 + lo = q * 10000 + r) (r0 : 0 ≤ r) (r1 : r < 10000) (g0 : 0 ≤ hi) (g1 : hi < 10000) (h0 : 0 ≤ lo) (h1 : lo < 18446744073709551616) (w : World) :
    Calls Try.prog 25 #[.int .u64 hi, .int .u64 lo, .int .u64 10000] w fun e w' => e = .returned (.tuple #[.int .u64 q, .int .u64 r]) ∧ ∃ n, w' = w.drewN n := by
  refine (div64 hi lo g0 g1 h0 h1 w).mono ?_
  rintro e w' ⟨he, hw⟩
  refine ⟨?_, hw⟩
  rw [he]
  exact ret2_int (by rw [h]; omega) (by rw [h]; omega)

end Go.Proofs.Ytbnhpehobadebaa
