/-
  The contracts of giro/word's number and numbers, and of giroref2's one, over this seat's program.
-/
import Derived.Test.YtdecdjjknbbolaaWordSpec
namespace Go.Proofs.Ytdecdjjknbbolaa
open Go.RowKit
set_option linter.unusedVariables false

theorem big_small (bs : List Int) (h : ∀ n ∈ bs, IntKind.u8.wrap n = n) (k j : Nat) (hj : k ≤ j) (hk : k ≤ bs.length) : 0 ≤ big (bs.take k) ∧ big (bs.take k) < 256 ^ j := by
  have h1 := big_bound bs h k hk
  have h2 : ((256 ^ k : Nat) : Int) ≤ ((256 ^ j : Nat) : Int) := Int.ofNat_le.2 (Nat.pow_le_pow_right (by omega) hj)
  rw [Int.natCast_pow, Int.natCast_pow] at h2
  have h3 : (256 : Int) ^ k ≤ 256 ^ j := h2
  omega

set_option maxHeartbeats 1000000 in
theorem number_row (b off len cap : Nat) (bs : List Int) (w : World) (hl : len = bs.length) (h8 : 8 ≤ bs.length) (hcap : len ≤ cap) (hm : cap ≤ 9223372036854775807) (hwf : ∀ n ∈ bs, IntKind.u8.wrap n = n)
    (hc : ∀ i, i < bs.length → w.cell? ⟨b, off + i, none⟩ = some (.int .u8 (bs.getD i 0))) :
    Calls Try.prog 58 #[.slice (some ⟨b, off, none⟩) len cap] w fun e w' => e = .returned (.int .i64 (dec (bs.take 8))) ∧ w' = w := by
  have c8 : ¬ cap = 0 := by omega
  go_enter Try.func58, Try.ntmps58
  go_wp2
  go_loop [3, 9] (fun n i => ∃ (k : Nat), k ≤ 8 ∧ i = .int .i64 k ∧ n = .int .i64 (dec (bs.take k))) (fun _ i => 8 - (intOf i).toNat)
  case atStart => exact ⟨0, by omega, rfl, rfl⟩
  case round =>
    obtain ⟨k, hk, rfl, rfl⟩ := hrel
    by_cases hlt : k < 8
    · obtain ⟨x, hx⟩ : ∃ x, bs.getD k 0 = x := ⟨_, rfl⟩
      have hcell := hc k (by omega)
      have hb := wf_u8 (hwf _ (getD_mem (show k < bs.length by omega)))
      rw [hx] at hcell hb
      obtain ⟨x0, x1⟩ := hb
      obtain ⟨m, hm⟩ : ∃ m, dec (bs.take k) = m := ⟨_, rfl⟩
      have hr := dec_wf (bs.take k)
      rw [hm] at hr
      obtain ⟨m0, m1⟩ := wf_i64 hr
      have S : Hid (bits .or .i64 (wrap64 (m * 256)) x = dec (bs.take (k + 1))) := by
        show bits .or .i64 (wrap64 (m * 256)) x = dec (bs.take (k + 1))
        rw [or_byte _ x (by unfold wrap64; omega) x0 x1]
        rw [← hm, ← hx]
        show IntKind.i64.wrap (wrap64 (IntKind.i64.wrap (big (bs.take k)) * 256) + bs.getD k 0) = IntKind.i64.wrap (big (bs.take (k + 1)))
        rw [big_take bs k (by omega)]
        simp only [IntKind.wrap_i64, wrap64]
        omega
      have i0 : (k : Int) < 8 := by omega
      rw [hm]
      clear hx hm hr hc hwf hl
      go_wp2
      go_round
      case rel => exact ⟨k + 1, by omega, by go_num, by rw [S.out]⟩
      case measure => simp [intOf]; omega
    · obtain rfl : k = 8 := by omega
      clear hc hwf hl
      go_wp2
      go_ret
      exact ⟨rfl, rfl⟩

/-- number. -/
theorem number_any (a : Option Addr) (len cap : Nat) (bs : List Int) (w : World) (h : Sl .u8 w a len bs) (h8 : 8 ≤ len) (hcap : len ≤ cap) (hm : cap ≤ 9223372036854775807) :
    Calls Try.prog 58 #[.slice a len cap] w fun e w' => e = .returned (.int .i64 (dec (bs.take 8))) ∧ w' = w := by
  have hl := h.1
  rcases h.2.2 with h0 | ⟨b, off, rfl, hc⟩
  · subst h0; simp at hl; omega
  · exact number_row b off len cap bs w hl (by omega) hcap hm h.2.1 hc

set_option maxHeartbeats 1000000 in
theorem one_row (b off len cap : Nat) (bs : List Int) (w : World) (hl : len = bs.length) (h8 : 8 ≤ bs.length) (hm : len ≤ 9223372036854775807) (hwf : ∀ n ∈ bs, IntKind.u8.wrap n = n)
    (hc : ∀ i, i < bs.length → w.cell? ⟨b, off + i, none⟩ = some (.int .u8 (bs.getD i 0))) :
    Calls Try.prog 59 #[.slice (some ⟨b, off, none⟩) len cap] w fun e w' => e = .returned (.int .i64 (dec (bs.take 8))) ∧ w' = w := by
  have h8' : 8 ≤ len := by omega
  go_enter Try.func59, Try.ntmps59
  go_wp2
  go_loop [3, 4] (fun n i => ∃ (k : Nat), k ≤ 8 ∧ i = .int .i64 k ∧ n = .int .u64 (big (bs.take k))) (fun _ i => 8 - (intOf i).toNat)
  case atStart => exact ⟨0, by omega, rfl, rfl⟩
  case round =>
    obtain ⟨k, hk, rfl, rfl⟩ := hrel
    by_cases hlt : k < 8
    · obtain ⟨x, hx⟩ : ∃ x, bs.getD k 0 = x := ⟨_, rfl⟩
      have hcell := hc k (by omega)
      have hb := wf_u8 (hwf _ (getD_mem (show k < bs.length by omega)))
      rw [hx] at hcell hb
      obtain ⟨x0, x1⟩ := hb
      obtain ⟨m, hm⟩ : ∃ m, big (bs.take k) = m := ⟨_, rfl⟩
      have hr := big_small bs hwf k 7 (by omega) (by omega)
      rw [hm] at hr
      obtain ⟨m0, m1⟩ := hr
      have m1 : m < 72057594037927936 := m1
      have S : Hid (big (bs.take (k + 1)) = m * 256 + x) := by
        show big (bs.take (k + 1)) = m * 256 + x
        rw [← hm, ← hx, big_take bs k (by omega)]
      have eO := or_byte_u64 (m * 256) x (by omega) (by omega) (by omega) x0 x1
      have i0 : (k : Int) < 8 := by omega
      have i1 : (k : Int) < (len : Int) := by omega
      rw [hm]
      clear hx hm hc hwf hl
      go_wp2
      go_round
      case rel => exact ⟨k + 1, by omega, by go_num, by rw [S.out]⟩
      case measure => simp [intOf]; omega
    · obtain rfl : k = 8 := by omega
      have S : Hid (wrap64 (big (bs.take 8)) = dec (bs.take 8)) := by
        show wrap64 (big (bs.take 8)) = IntKind.i64.wrap (big (bs.take 8))
        rw [IntKind.wrap_i64, wrap64]
      clear hc hwf hl
      go_wp2
      go_ret
      exact ⟨rt_int S.out, rfl⟩

/-- one. -/
theorem one_any (a : Option Addr) (len cap : Nat) (bs : List Int) (w : World) (h : Sl .u8 w a len bs) (h8 : 8 ≤ len) (hm : len ≤ 9223372036854775807) :
    Calls Try.prog 59 #[.slice a len cap] w fun e w' => e = .returned (.int .i64 (dec (bs.take 8))) ∧ w' = w := by
  have hl := h.1
  rcases h.2.2 with h0 | ⟨b, off, rfl, hc⟩
  · subst h0; simp at hl; omega
  · exact one_row b off len cap bs w hl (by omega) hm h.2.1 hc

end Go.Proofs.Ytdecdjjknbbolaa
