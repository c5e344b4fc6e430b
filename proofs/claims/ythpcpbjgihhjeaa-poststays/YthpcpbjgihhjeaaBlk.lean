/-
  A block of int64s that a call has made and writes: what its cells hold, and what stands there behind a store; numbers by digits of 65536.
-/
import Derived.Test.YthpcpbjgihhjeaaLimOne
namespace Go.Proofs.Ythpcpbjgihhjeaa
open Go.RowKit
set_option linter.unusedVariables false

/-- The number of digits of 65536, the lowest first. -/
def val : List Int → Int
  | [] => 0
  | x :: l => x + 65536 * val l

theorem getD_set_ne (l : List Int) (i j : Nat) (x : Int) (h : i ≠ j) : (l.set i x).getD j 0 = l.getD j 0 := by
  simp [List.getD_eq_getElem?_getD, List.getElem?_set_ne h]
theorem getD_set_self (l : List Int) (i : Nat) (x : Int) (h : i < l.length) : (l.set i x).getD i 0 = x := by
  simp [List.getD_eq_getElem?_getD, h]

theorem val_set (l : List Int) (i : Nat) (x : Int) (h : i < l.length) : val (l.set i x) = val l + (x - l.getD i 0) * 65536 ^ i := by
  induction l generalizing i with
  | nil => simp at h
  | cons y l ih =>
    cases i with
    | zero => simp [val]; omega
    | succ i =>
      simp only [List.set_cons_succ, val]
      rw [ih i (by simpa using h)]
      simp only [List.getD_cons_succ, Int.pow_succ]
      rw [Int.mul_add, ← Int.mul_assoc, Int.mul_comm 65536 (x - l.getD i 0), Int.mul_assoc (x - l.getD i 0), Int.mul_comm 65536 (65536 ^ i)]
      omega

/-- A carry from one digit to the next leaves the number. -/
theorem val_carry (l : List Int) (k : Nat) (h : k + 1 < l.length) :
    val ((l.set (k + 1) (l.getD (k + 1) 0 + l.getD k 0 / 65536)).set k (l.getD k 0 % 65536)) = val l := by
  rw [val_set _ k _ (by simp; omega), val_set l (k + 1) _ h, getD_set_ne l (k + 1) k _ (by omega)]
  have e : l.getD k 0 = 65536 * (l.getD k 0 / 65536) + l.getD k 0 % 65536 := by omega
  generalize l.getD k 0 / 65536 = q at *
  generalize l.getD k 0 % 65536 = r at *
  rw [e, Int.pow_succ]
  have e1 : l.getD (k + 1) 0 + q - l.getD (k + 1) 0 = q := by omega
  have e2 : r - (65536 * q + r) = -(q * 65536) := by omega
  rw [e1, e2, Int.neg_mul, Int.mul_comm (65536 ^ k) 65536, ← Int.mul_assoc]
  omega

end Go.Proofs.Ythpcpbjgihhjeaa
