/-
  pool: what is held in all: the program's answer and the document's.
-/
import Derived.Test.YtbnhpehobadebaaProduct
import Derived.Test.YtbnhpehobadebaaAsts
namespace Go.Proofs.Ytbnhpehobadebaa
open Go.RowKit
set_option linter.unusedVariables false
set_option linter.unusedSimpArgs false

/-- What the first k are worth in all, and whether each is, and every sum is held. -/
def vV (p h c : Nat → Int) : Nat → Int
  | 0 => 0
  | k + 1 => vV p h c k + worthV (p k) (h k) (c k)
def vOk (p h c : Nat → Int) : Nat → Bool
  | 0 => true
  | k + 1 => vOk p h c k && (worthB (p k) (h k) (c k) && heldB (vV p h c k + worthV (p k) (h k) (c k)))

/-- Value. -/
def valueB (n np nh : Nat) (p h c : Nat → Int) : Bool := decide (np = n) && (decide (nh = n) && vOk p h c n)
def valueV (n np nh : Nat) (p h c : Nat → Int) : Int := if valueB n np nh p h c = true then vV p h c n else 0

theorem vOk_later {p h c : Nat → Int} {k : Nat} (hk : vOk p h c k = false) : ∀ n, k ≤ n → vOk p h c n = false := by
  intro n hn
  induction n with
  | zero => obtain rfl : k = 0 := by omega
            exact hk
  | succ n ih =>
    by_cases e : k = n + 1
    · rw [← e]; exact hk
    · simp [vOk, ih (by omega)]

theorem value_p {n np nh : Nat} {p h c : Nat → Int} (k : np ≠ n) : 0 = valueV n np nh p h c ∧ false = valueB n np nh p h c := by simp [valueV, valueB, k]
theorem value_h {n np nh : Nat} {p h c : Nat → Int} (k : nh ≠ n) : 0 = valueV n np nh p h c ∧ false = valueB n np nh p h c := by simp [valueV, valueB, k]
theorem value_bad {n k : Nat} {p h c : Nat → Int} (hk : k < n) (hb : vOk p h c (k + 1) = false) : 0 = valueV n n n p h c ∧ false = valueB n n n p h c := by simp [valueV, valueB, vOk_later hb n hk]
theorem value_all {n : Nat} {p h c : Nat → Int} (hb : vOk p h c n = true) : vV p h c n = valueV n n n p h c ∧ true = valueB n n n p h c := by simp [valueV, valueB, hb]
theorem vOk_w {p h c : Nat → Int} {k : Nat} (hb : worthB (p k) (h k) (c k) = false) : vOk p h c (k + 1) = false := by simp [vOk, hb]
theorem vOk_s {p h c : Nat → Int} {k : Nat} (hb : heldB (vV p h c k + worthV (p k) (h k) (c k)) = false) : vOk p h c (k + 1) = false := by simp [vOk, hb]
theorem vOk_all {p h c : Nat → Int} {k : Nat} (h0 : vOk p h c k = true) (h1 : worthB (p k) (h k) (c k) = true) (h2 : heldB (vV p h c k + worthV (p k) (h k) (c k)) = true) : vOk p h c (k + 1) = true := by simp [vOk, h0, h1, h2]

theorem heldV_bound (x : Int) : -9223372036854775808 ≤ heldV x ∧ heldV x ≤ 9223372036854775807 := by
  by_cases h : -9223372036854775808 ≤ x ∧ x ≤ 9223372036854775807
  · rw [heldV_yes h.1 h.2]; exact h
  · rw [heldV_no h]; omega
theorem held_is {x : Int} (h : heldB x = true) : heldV x = x := by
  by_cases k : -9223372036854775808 ≤ x ∧ x ≤ 9223372036854775807
  · exact heldV_yes k.1 k.2
  · rw [heldB_no k] at h; cases h
theorem held_in {x : Int} (h : heldB x = true) : -9223372036854775808 ≤ x ∧ x ≤ 9223372036854775807 := by
  by_cases k : -9223372036854775808 ≤ x ∧ x ≤ 9223372036854775807
  · exact k
  · rw [heldB_no k] at h; cases h
theorem worthV_bound (p m c : Int) : -9223372036854775808 ≤ worthV p m c ∧ worthV p m c ≤ 9223372036854775807 := by
  unfold worthV
  split
  · exact heldV_bound _
  · omega
theorem vV_bound {p h c : Nat → Int} {k : Nat} (hk : vOk p h c k = true) : -9223372036854775808 ≤ vV p h c k ∧ vV p h c k ≤ 9223372036854775807 := by
  cases k with
  | zero => simp [vV]
  | succ k =>
    simp only [vOk, Bool.and_eq_true] at hk
    exact held_in hk.2.2

/-- The cell of a slice of int64s at k. -/
theorem Sl.at64 {w : World} {a : Option Addr} {len : Nat} {zs : List Int} (h : Sl .i64 w a len zs) {k : Nat} (hk : k < len) :
    ∃ b off, a = some ⟨b, off, none⟩ ∧ w.cell? ⟨b, off + k, none⟩ = some (.int .i64 (zs.getD k 0)) ∧ b < w.heap.size ∧ -9223372036854775808 ≤ zs.getD k 0 ∧ zs.getD k 0 ≤ 9223372036854775807 := by
  have hl := h.1
  rcases h.2.2 with h0 | ⟨b, off, ha, hc⟩
  · subst h0; simp at hl; omega
  · have hw := wf_i64 (h.2.1 _ (getD_mem (i := k) (by omega)))
    exact ⟨b, off, ha, hc k (by omega), block_lt_of_cell (hc k (by omega)), hw.1, hw.2⟩

end Go.Proofs.Ytbnhpehobadebaa
