/-
  row.Find, giroref13.Find; slices.IndexFunc.
-/
import Derived.Test.YtmfmdicdbjghkaaRowSpec
import Derived.Test.YtmfmdicdbjghkaaPayRows
namespace Go.Proofs.Ytmfmdicdbjghkaa
open Go.RowKit
set_option linter.unusedVariables false
set_option linter.unusedSimpArgs false


theorem refFind_none (a : Option Addr) (c : Nat) (x : Int) (w : World) : Calls Try.prog 20 #[.slice a 0 c, .int .i64 x] w fun e w' => e = .returned (.int .i64 (-1)) ∧ w' = w := by
  go_enter Try.func20, Try.ntmps20
  go_wp2
  refine wp_loop_rounds 1 ?_
  rw [rounds_succ]
  go_wp2
  go_ret
  exact ⟨rfl, rfl⟩

set_option maxHeartbeats 4000000 in
theorem refFind_row (b off c : Nat) (x : Int) (L : List P7) (w : World) (hm : L.length ≤ 1000000) (hc : ∀ i, i < L.length → At7 w b (off + i * 7) (L.getD i p70)) :
    Calls Try.prog 20 #[.slice (some ⟨b, off, none⟩) L.length c, .int .i64 x] w fun e w' => e = .returned (.int .i64 (qFind L x)) ∧ w' = w := by
  have HC : Hid (∀ i, i < L.length → At7 w b (off + i * 7) (L.getD i p70)) := hc
  clear hc
  go_enter Try.func20, Try.ntmps20
  go_wp2
  go_loop [5] (fun i => ∃ k : Nat, k ≤ L.length ∧ i = .int .i64 k ∧ Hid (∀ t, t < k → ¬ (L.getD t p70).id = x)) (fun i => L.length - (intOf i).toNat)
  case atStart => exact ⟨0, by omega, rfl, fun t ht => by omega⟩
  case round =>
    obtain ⟨k, hk, rfl, HP⟩ := hrel
    by_cases hlt : k < L.length
    · have i1 : (k : Int) < (L.length : Int) := by omega
      obtain ⟨p0, -⟩ := HC.out k hlt
      obtain ⟨y, hy⟩ : ∃ y, (L.getD k p70).id = y := ⟨_, rfl⟩
      rw [hy] at p0
      have HY : Hid ((L.getD k p70).id = y) := hy
      clear hy HC
      by_cases hyx : y = x
      · have HD : Hid ((k : Int) = qFind L x) := by
          have := find_yes hlt HP.out (by rw [HY.out]; exact hyx)
          show (k : Int) = qFind L x
          rw [qFind_yes this.1, this.2]
        subst hyx
        go_wp2
        go_ret
        exact ⟨rt_int HD.out, rfl⟩
      · have he : (y == x) = false := by simpa using hyx
        go_wp2
        go_round
        case rel =>
          refine ⟨k + 1, by omega, by go_num, fun t ht => ?_⟩
          by_cases htk : t < k
          · exact HP.out t htk
          · obtain rfl : t = k := by omega
            rw [HY.out]
            exact hyx
        case measure => simp [intOf]; omega
    · obtain rfl : k = L.length := by omega
      have HD : Hid (-1 = qFind L x) := (qFind_no (find_no HP.out)).symm
      clear HC
      go_wp2
      go_ret
      exact ⟨rt_int HD.out, rfl⟩

theorem refFind_any (a : Option Addr) (n c : Nat) (x : Int) (L : List P7) (w : World) (hm : n ≤ 1000000) (h : Pays w a n L) :
    Calls Try.prog 20 #[.slice a n c, .int .i64 x] w fun e w' => e = .returned (.int .i64 (qFind L x)) ∧ w' = w := by
  have l := h.1
  subst l
  rcases h.2 with h0 | ⟨b, off, rfl, hc⟩
  · subst h0
    exact refFind_none a c x w
  · exact refFind_row b off c x L w hm hc

end Go.Proofs.Ytmfmdicdbjghkaa
