/-
  The contracts of giro/cash's signWord, Sum and Add over this seat's program.
-/
import Derived.Test.YtnmldnokoihajaaWorth
namespace Go.Proofs.Ytnmldnokoihajaa
open Go.RowKit
set_option linter.unusedVariables false

/-- The sum of a list. -/
def tot : List Int → Int
  | [] => 0
  | x :: l => x + tot l

theorem tot_append (l m : List Int) : tot (l ++ m) = tot l + tot m := by
  induction l with
  | nil => simp [tot]
  | cons x l ih => simp only [List.cons_append, tot, ih]; omega

theorem tot_take (l : List Int) (k : Nat) (h : k < l.length) : tot (l.take (k + 1)) = tot (l.take k) + l.getD k 0 := by
  rw [List.take_succ_eq_append_getElem h, tot_append]
  simp [tot, h]

theorem tot_bound (l : List Int) (h : ∀ n ∈ l, -9223372036854775808 ≤ n ∧ n ≤ 9223372036854775807) :
    -9223372036854775808 * l.length ≤ tot l ∧ tot l ≤ 9223372036854775807 * l.length := by
  induction l with
  | nil => simp [tot]
  | cons x l ih =>
    have h1 := h x (by simp)
    have h2 := ih (fun n hn => h n (by simp [hn]))
    simp only [tot, List.length_cons, Int.natCast_add, Int.natCast_one]
    omega

theorem ret_ib {k : IntKind} {a c : Int} {b d : Bool} (h1 : a = c) (h2 : b = d) : Ending.returned (.tuple #[.int k a, .bool b]) = .returned (.tuple #[.int k c, .bool d]) := by rw [h1, h2]

/-- What the walk is told of a slice of int64s: its elements. -/
def Has (w : World) (a : Option Addr) (len : Nat) (zs : List Int) : Prop :=
  len = zs.length ∧ zs.length ≤ 140737488355328 ∧ (∀ n ∈ zs, -9223372036854775808 ≤ n ∧ n ≤ 9223372036854775807) ∧
    (zs = [] ∨ ∃ b off, a = some ⟨b, off, none⟩ ∧ ∀ i, i < zs.length → w.cell? ⟨b, off + i, none⟩ = some (.int .i64 (zs.getD i 0)))

set_option maxHeartbeats 400000 in
theorem sign_neg (n : Int) (h : n < 0) (w : World) :
    Calls Try.prog 25 #[.int .i64 n] w fun e w' => e = .returned (.int .u64 18446744073709551615) ∧ w' = w := by
  go_enter Try.func25, Try.ntmps25
  go_wp2
  go_ret
  exact ⟨rfl, rfl⟩

set_option maxHeartbeats 400000 in
theorem sign_pos (n : Int) (h : 0 ≤ n) (w : World) :
    Calls Try.prog 25 #[.int .i64 n] w fun e w' => e = .returned (.int .u64 0) ∧ w' = w := by
  go_enter Try.func25, Try.ntmps25
  go_wp2
  go_ret
  exact ⟨rfl, rfl⟩

set_option maxHeartbeats 2000000 in
theorem sum_row (b off cap : Nat) (zs : List Int) (w : World) (hlen : zs.length ≤ 140737488355328)
    (hwf : ∀ n ∈ zs, -9223372036854775808 ≤ n ∧ n ≤ 9223372036854775807)
    (hc : ∀ i, i < zs.length → w.cell? ⟨b, off + i, none⟩ = some (.int .i64 (zs.getD i 0))) :
    Calls Try.prog 23 #[.slice (some ⟨b, off, none⟩) zs.length cap] w fun e w' => e = .returned (.tuple #[.int .i64 (heldV (tot zs)), .bool (heldB (tot zs))]) ∧ w' = w := by
  go_enter Try.func23, Try.ntmps23
  go_wp2
  go_loop [4, 5, 12] (fun h l i => ∃ (k : Nat) (H L j : Int), k ≤ zs.length ∧ i = .int .i64 k ∧ h = .int .u64 H ∧ l = .int .u64 L ∧ 0 ≤ H ∧ H < 18446744073709551616 ∧ 0 ≤ L ∧ L < 18446744073709551616 ∧
      H * 18446744073709551616 + L = tot (zs.take k) + j * 340282366920938463463374607431768211456) (fun _ _ i => zs.length - (intOf i).toNat)
  case atStart => exact ⟨0, 0, 0, 0, by omega, rfl, rfl, rfl, by omega, by omega, by omega, by omega, by simp [tot]⟩
  case round =>
    obtain ⟨k, H, L, j, hk, rfl, rfl, rfl, H0, H1, L0, L1, hj⟩ := hrel
    have J : Hid (H * 18446744073709551616 + L = tot (zs.take k) + j * 340282366920938463463374607431768211456) := hj
    clear hj
    by_cases hlt : k < zs.length
    · obtain ⟨n, hn⟩ : ∃ n, zs.getD k 0 = n := ⟨_, rfl⟩
      have hcell := hc k hlt
      rw [hn] at hcell
      have hb : -9223372036854775808 ≤ n ∧ n ≤ 9223372036854775807 := by
        refine hwf n ?_
        rw [← hn]
        simp [List.getD_eq_getElem?_getD, hlt]
      obtain ⟨n0, n1⟩ := hb
      have T : Hid (tot (zs.take (k + 1)) = tot (zs.take k) + n) := by rw [tot_take zs k hlt, hn]; exact rfl
      clear hc hwf hn
      by_cases hs : n < 0
      · have eN : IntKind.u64.wrap n = n + 18446744073709551616 := by rw [IntKind.wrap_u64]; omega
        obtain ⟨m, hm⟩ : ∃ m, m = n + 18446744073709551616 := ⟨_, rfl⟩
        rw [← hm] at eN
        have m0 : 0 ≤ m := by omega
        have m1 : m < 18446744073709551616 := by omega
        have A1 : L + m + 0 = (L + m) / 18446744073709551616 * 18446744073709551616 + (L + m) % 18446744073709551616 := by omega
        have s0 : 0 ≤ (L + m) % 18446744073709551616 := by omega
        have s1 : (L + m) % 18446744073709551616 < 18446744073709551616 := by omega
        have d0 : 0 ≤ (L + m) / 18446744073709551616 := by omega
        have d1 : (L + m) / 18446744073709551616 ≤ 1 := by omega
        generalize (L + m) / 18446744073709551616 = d at *
        generalize (L + m) % 18446744073709551616 = s at *
        have A2 : H + 18446744073709551615 + d = (H + 18446744073709551615 + d) / 18446744073709551616 * 18446744073709551616 + (H + 18446744073709551615 + d) % 18446744073709551616 := by omega
        have t0 : 0 ≤ (H + 18446744073709551615 + d) % 18446744073709551616 := by omega
        have t1 : (H + 18446744073709551615 + d) % 18446744073709551616 < 18446744073709551616 := by omega
        generalize (H + 18446744073709551615 + d) / 18446744073709551616 = c at *
        generalize (H + 18446744073709551615 + d) % 18446744073709551616 = t at *
        have A1' : Hid (L + m + 0 = d * 18446744073709551616 + s) := A1
        have A2' : Hid (H + 18446744073709551615 + d = c * 18446744073709551616 + t) := A2
        have hm' : Hid (m = n + 18446744073709551616) := hm
        clear A1 A2 hm
        go_wp2_with (first
          | (go_at_call 25; refine (sign_neg n hs _).mono ?_; rintro e w' ⟨rfl, rfl⟩)
          | simp only [add64_as L m 0 s d A1' L0 m0 (by decide) (by decide) s0 s1]
          | simp only [add64_as H 18446744073709551615 d t c A2' H0 (by decide) d0 d1 t0 t1])
        go_round
        case rel =>
          have J := J.out
          have T := T.out
          have A1 := A1'.out
          have A2 := A2'.out
          have hm := hm'.out
          exact ⟨k + 1, t, s, j + 1 - c, by omega, by go_num, rfl, rfl, t0, t1, s0, s1, by rw [T]; omega⟩
        case measure => simp [intOf]; omega
      · have A1 : L + n + 0 = (L + n) / 18446744073709551616 * 18446744073709551616 + (L + n) % 18446744073709551616 := by omega
        have s0 : 0 ≤ (L + n) % 18446744073709551616 := by omega
        have s1 : (L + n) % 18446744073709551616 < 18446744073709551616 := by omega
        have d0 : 0 ≤ (L + n) / 18446744073709551616 := by omega
        have d1 : (L + n) / 18446744073709551616 ≤ 1 := by omega
        generalize (L + n) / 18446744073709551616 = d at *
        generalize (L + n) % 18446744073709551616 = s at *
        have A2 : H + 0 + d = (H + d) / 18446744073709551616 * 18446744073709551616 + (H + d) % 18446744073709551616 := by omega
        have t0 : 0 ≤ (H + d) % 18446744073709551616 := by omega
        have t1 : (H + d) % 18446744073709551616 < 18446744073709551616 := by omega
        generalize (H + d) / 18446744073709551616 = c at *
        generalize (H + d) % 18446744073709551616 = t at *
        have A1' : Hid (L + n + 0 = d * 18446744073709551616 + s) := A1
        have A2' : Hid (H + 0 + d = c * 18446744073709551616 + t) := A2
        clear A1 A2
        have hs' : 0 ≤ n := by omega
        clear hs
        go_wp2_with (first
          | (go_at_call 25; refine (sign_pos n hs' _).mono ?_; rintro e w' ⟨rfl, rfl⟩)
          | simp only [add64_as L n 0 s d A1' L0 hs' (by decide) (by decide) s0 s1]
          | simp only [add64_as H 0 d t c A2' H0 (by decide) d0 d1 t0 t1])
        go_round
        case rel =>
          have J := J.out
          have T := T.out
          have A1 := A1'.out
          have A2 := A2'.out
          exact ⟨k + 1, t, s, j - c, by omega, by go_num, rfl, rfl, t0, t1, s0, s1, by rw [T]; omega⟩
        case measure => simp [intOf]; omega
    · have hK : zs.take k = zs := List.take_of_length_le (by omega)
      have B := tot_bound zs hwf
      have J := J.out
      rw [hK] at J
      have B0 : -1298074214633706907132624082305024 ≤ tot zs := by omega
      have B1 : tot zs ≤ 1298074214633706907132624082305024 := by omega
      clear B hK hwf hc
      by_cases hs : L < 9223372036854775808
      · by_cases hH : H = 0
        · subst hH
          obtain ⟨V, G⟩ : Hid (L = heldV (tot zs)) ∧ Hid (true = heldB (tot zs)) := by
            have E : tot zs = L := by omega
            rw [E]; exact ⟨(heldV_yes (by omega) (by omega)).symm, (heldB_yes (by omega) (by omega)).symm⟩
          clear J B0 B1
          go_wp2_with (go_at_call 25; refine (sign_pos L L0 _).mono ?_; rintro e w' ⟨rfl, rfl⟩)
          go_ret2
          exact ⟨ret_ib V.out G.out, rfl⟩
        · obtain ⟨V, G⟩ : Hid (0 = heldV (tot zs)) ∧ Hid (false = heldB (tot zs)) := by
            have E : ¬ (-9223372036854775808 ≤ tot zs ∧ tot zs ≤ 9223372036854775807) := by omega
            exact ⟨(heldV_no E).symm, (heldB_no E).symm⟩
          have hH' : (H == 0) = false := by simp; omega
          clear J B0 B1 hH
          go_wp2_with (go_at_call 25; refine (sign_pos L L0 _).mono ?_; rintro e w' ⟨rfl, rfl⟩)
          go_ret2
          exact ⟨ret_ib V.out G.out, rfl⟩
      · have eL : IntKind.i64.wrap L = L - 18446744073709551616 := by rw [IntKind.wrap_i64]; omega
        obtain ⟨y, hy⟩ : ∃ y, y = L - 18446744073709551616 := ⟨_, rfl⟩
        rw [← hy] at eL
        have y0 : -9223372036854775808 ≤ y := by omega
        have y1 : y < 0 := by omega
        by_cases hH : H = 18446744073709551615
        · subst hH
          obtain ⟨V, G⟩ : Hid (y = heldV (tot zs)) ∧ Hid (true = heldB (tot zs)) := by
            have E : tot zs = y := by omega
            rw [E]; exact ⟨(heldV_yes (by omega) (by omega)).symm, (heldB_yes (by omega) (by omega)).symm⟩
          clear J B0 B1 hy
          go_wp2_with (go_at_call 25; refine (sign_neg y y1 _).mono ?_; rintro e w' ⟨rfl, rfl⟩)
          go_ret2
          exact ⟨ret_ib V.out G.out, rfl⟩
        · obtain ⟨V, G⟩ : Hid (0 = heldV (tot zs)) ∧ Hid (false = heldB (tot zs)) := by
            have E : ¬ (-9223372036854775808 ≤ tot zs ∧ tot zs ≤ 9223372036854775807) := by omega
            exact ⟨(heldV_no E).symm, (heldB_no E).symm⟩
          have hH' : (H == 18446744073709551615) = false := by simp; omega
          clear J B0 B1 hH hy
          go_wp2_with (go_at_call 25; refine (sign_neg y y1 _).mono ?_; rintro e w' ⟨rfl, rfl⟩)
          go_ret2
          exact ⟨ret_ib V.out G.out, rfl⟩

set_option maxHeartbeats 400000 in
theorem sum_none (a : Option Addr) (cap : Nat) (w : World) :
    Calls Try.prog 23 #[.slice a 0 cap] w fun e w' => e = .returned (.tuple #[.int .i64 0, .bool true]) ∧ w' = w := by
  go_enter Try.func23, Try.ntmps23
  go_wp2
  refine wp_loop_rounds 1 ?_
  rw [rounds_succ]
  go_wp2_with (go_at_call 25; refine (sign_pos 0 (by decide) _).mono ?_; rintro e w' ⟨rfl, rfl⟩)
  go_ret2
  exact ⟨rfl, rfl⟩

/-- Sum. -/
theorem sum_any (a : Option Addr) (len cap : Nat) (zs : List Int) (w : World) (h : Has w a len zs) :
    Calls Try.prog 23 #[.slice a len cap] w fun e w' => e = .returned (.tuple #[.int .i64 (heldV (tot zs)), .bool (heldB (tot zs))]) ∧ w' = w := by
  obtain ⟨rfl, h1, h2, h3⟩ := h
  rcases h3 with rfl | ⟨b, off, rfl, h3⟩
  · refine (sum_none a cap w).mono ?_
    rintro e w' ⟨rfl, rfl⟩
    exact ⟨by simp [tot, heldV, heldB], rfl⟩
  · exact sum_row b off cap zs w h1 h2 h3

end Go.Proofs.Ytnmldnokoihajaa
