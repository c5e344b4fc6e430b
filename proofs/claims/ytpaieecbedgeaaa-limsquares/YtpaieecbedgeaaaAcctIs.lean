/-
  acct: is it an account: the program's answer and the document's; a less b.
-/
import Derived.Test.YtpaieecbedgeaaaNew
namespace Go.Proofs.Ytpaieecbedgeaaa
open Go.RowKit
set_option linter.unusedVariables false
set_option linter.unusedSimpArgs false

/-- May a credit or a reserve be so much? -/
def setB (n : Int) : Bool := decide (0 ≤ n ∧ n ≤ 2305843009213693952)
/-- May a balance? -/
def balB (b : Int) : Bool := decide (-4611686018427387904 < b ∧ b < 4611686018427387904)
/-- Is it an account? -/
def acctB (b c r : Int) : Bool := balB b && (setB c && setB r)

theorem setB_low {n : Int} (h : n < 0) : false = setB n := by unfold setB; symm; rw [decide_eq_false_iff_not]; omega
theorem setB_rest {n : Int} (h : 0 ≤ n) : decide (n ≤ 2305843009213693952) = setB n := by simp [setB, h]
theorem balB_low {n : Int} (h : n ≤ -4611686018427387904) : balB n = false := by unfold balB; rw [decide_eq_false_iff_not]; omega
theorem balB_rest {n : Int} (h : -4611686018427387904 < n) : balB n = decide (n < 4611686018427387904) := by simp [balB, h]
theorem acctB_yes {b c r : Int} : acctB b c r = true ↔ -4611686018427387904 < b ∧ b < 4611686018427387904 ∧ 0 ≤ c ∧ c ≤ 2305843009213693952 ∧ 0 ≤ r ∧ r ≤ 2305843009213693952 := by
  simp only [acctB, balB, setB, Bool.and_eq_true, decide_eq_true_iff]; omega

theorem maySet_any (n : Int) (w : World) : Calls Try.prog 41 #[.int .i64 n] w fun e w' => e = .returned (.bool (setB n)) ∧ w' = w := by
  rcases Int.lt_or_le n 0 with h | h
  · go_enter Try.func41, Try.ntmps41
    go_wp2
    go_ret
    exact ⟨rt_bool (setB_low h), rfl⟩
  · go_enter Try.func41, Try.ntmps41
    go_wp2
    go_ret
    exact ⟨rt_bool (setB_rest h), rfl⟩

set_option maxHeartbeats 1000000 in
theorem acctIs_any (b c r : Int) (w : World) : Calls Try.prog 34 #[.agg #[.int .i64 b, .int .i64 c, .int .i64 r]] w fun e w' => e = .returned (.bool (acctB b c r)) ∧ Below w.heap.size w w' := by
  unfold acctB
  rcases Int.lt_or_le (-4611686018427387904) b with h | h
  · rw [balB_rest h]
    have M1 := maySet_any c
    have M2 := maySet_any r
    generalize setB c = p at M1 ⊢
    generalize setB r = q at M2 ⊢
    rcases Int.lt_or_le b 4611686018427387904 with k | k
    · rw [decide_eq_true k]
      go_enter Try.func34, Try.ntmps34
      go_wp2_with fail
      go_at_call 41
      refine (M1 _).mono ?_
      rintro e w1 ⟨rfl, hw⟩
      have A1 : At3 w1 w.heap.size b c r := by rw [hw]; exact At3.new _ _ _ _ _ _
      have B1 : Hid (Below w.heap.size w w1) := by rw [hw]; exact box_below _ _
      obtain ⟨c0, c1, c2⟩ := A1
      clear hw M1
      cases p
      · go_wp2
        go_ret
        exact ⟨rfl, B1.out⟩
      · go_wp2_with fail
        go_at_call 41
        refine (M2 _).mono ?_
        rintro e w2 ⟨rfl, hw⟩
        obtain rfl := hw.symm
        clear M2
        go_wp2
        go_ret
        exact ⟨rt_bool (by simp), B1.out⟩
    · rw [decide_eq_false (by omega)]
      go_enter Try.func34, Try.ntmps34
      go_wp2
      go_ret
      exact ⟨rt_bool (by simp), box_below _ _⟩
  · rw [balB_low h]
    go_enter Try.func34, Try.ntmps34
    go_wp2
    go_ret
    exact ⟨rt_bool (by simp), box_below _ _⟩

set_option maxHeartbeats 1000000 in
theorem refAcctIs_any (b c r : Int) (w : World) : Calls Try.prog 20 #[.agg #[.int .i64 b, .int .i64 c, .int .i64 r]] w fun e w' => e = .returned (.bool (acctB b c r)) ∧ Below w.heap.size w w' := by
  unfold acctB
  rcases Int.lt_or_le (-4611686018427387904) b with h | h
  · rw [balB_rest h]
    rcases Int.lt_or_le b 4611686018427387904 with k | k
    · rw [decide_eq_true k]
      rcases Int.lt_or_le c 0 with m | m
      · rw [← setB_low m]
        go_enter Try.func20, Try.ntmps20
        go_wp2
        go_ret
        exact ⟨rt_bool (by simp), box_below _ _⟩
      · rw [← setB_rest m]
        rcases Int.lt_or_le 2305843009213693952 c with o | o
        · rw [decide_eq_false (by omega)]
          go_enter Try.func20, Try.ntmps20
          go_wp2
          go_ret
          exact ⟨rt_bool (by simp), box_below _ _⟩
        · rw [decide_eq_true o]
          rcases Int.lt_or_le r 0 with p | p
          · rw [← setB_low p]
            go_enter Try.func20, Try.ntmps20
            go_wp2
            go_ret
            exact ⟨rt_bool (by simp), box_below _ _⟩
          · rw [← setB_rest p]
            go_enter Try.func20, Try.ntmps20
            go_wp2
            go_ret
            exact ⟨rt_bool (by simp), box_below _ _⟩
    · rw [decide_eq_false (by omega)]
      go_enter Try.func20, Try.ntmps20
      go_wp2
      go_ret
      exact ⟨rt_bool (by simp), box_below _ _⟩
  · rw [balB_low h]
    go_enter Try.func20, Try.ntmps20
    go_wp2
    go_ret
    exact ⟨rt_bool (by simp), box_below _ _⟩

theorem flip_i64 (b : Int) (b0 : -9223372036854775808 ≤ b) (b1 : b ≤ 9223372036854775807) : bits .xor .i64 (-1) b = -b - 1 := by
  show IntKind.i64.wrap ((BitVec.ofInt 64 (-1) ^^^ BitVec.ofInt 64 b).toNat : Nat) = -b - 1
  have e : (BitVec.ofInt 64 (-1) ^^^ BitVec.ofInt 64 b) = ~~~ (BitVec.ofInt 64 b) := by
    have h : BitVec.ofInt 64 (-1) = BitVec.allOnes 64 := by decide
    rw [h, BitVec.allOnes_xor]
  rw [e, BitVec.toNat_not, BitVec.toNat_ofInt, IntKind.wrap_i64]
  omega

end Go.Proofs.Ytpaieecbedgeaaa
