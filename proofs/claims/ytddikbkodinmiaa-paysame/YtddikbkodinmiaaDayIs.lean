/-
  day: are rules such: the program's answer and the document's.
-/
import Derived.Test.YtddikbkodinmiaaAsts
namespace Go.Proofs.Ytddikbkodinmiaa
open Go.RowKit
set_option linter.unusedVariables false
set_option linter.unusedSimpArgs false

/-- A number lies between two. -/
def inB (n l h : Int) : Bool := decide (l ≤ n ∧ n ≤ h)

theorem inB_no {n l h : Int} (k : n < l) : false = inB n l h := by unfold inB; symm; rw [decide_eq_false_iff_not]; omega
theorem inB_yes {n l h : Int} (k : l ≤ n) : decide (n ≤ h) = inB n l h := by simp [inB, k]

theorem in_any (n l h : Int) (w : World) : Calls Try.prog 17 #[.int .i64 n, .int .i64 l, .int .i64 h] w fun e w' => e = .returned (.bool (inB n l h)) ∧ w' = w := by
  by_cases k : l ≤ n
  · go_enter Try.func17, Try.ntmps17
    go_wp2
    go_ret
    exact ⟨rt_bool (inB_yes k), rfl⟩
  · go_enter Try.func17, Try.ntmps17
    go_wp2
    go_ret
    exact ⟨rt_bool (inB_no k), rfl⟩

/-- The assets of rules that may be. -/
def astOk (P C : Nat → Int) (i : Nat) : Bool := inB (P i) 0 1048576 && inB (C i) 0 10000
def astS (len : Nat) (P C : Nat → Int) : Bool := decide (len ≤ 3 ∧ ∀ i, i < len → astOk P C i = true)

theorem astS_many {len : Nat} {P C : Nat → Int} (h : ¬ len ≤ 3) : false = astS len P C := by simp [astS, h]
theorem astS_bad {len k : Nat} {P C : Nat → Int} (h : k < len) (hk : astOk P C k = false) : false = astS len P C := by
  unfold astS
  symm
  rw [decide_eq_false_iff_not]
  rintro ⟨_, h2⟩
  rw [h2 k h] at hk
  cases hk
theorem astS_all {len : Nat} {P C : Nat → Int} (h : len ≤ 3) (hk : ∀ j, j < len → astOk P C j = true) : true = astS len P C := by
  unfold astS
  symm
  rw [decide_eq_true_iff]
  exact ⟨h, hk⟩
theorem astOk_p {P C : Nat → Int} {k : Nat} (h : inB (P k) 0 1048576 = false) : astOk P C k = false := by simp [astOk, h]
theorem astOk_c {P C : Nat → Int} {k : Nat} (h : inB (C k) 0 10000 = false) : astOk P C k = false := by simp [astOk, h]
theorem astOk_all {P C : Nat → Int} {k : Nat} (h : inB (P k) 0 1048576 = true) (h' : inB (C k) 0 10000 = true) : astOk P C k = true := by simp [astOk, h, h']
theorem ok_snoc {P C : Nat → Int} {k : Nat} (h : ∀ j, j < k → astOk P C j = true) (hk : astOk P C k = true) : ∀ j, j < k + 1 → astOk P C j = true := by
  intro j hj
  by_cases e : j = k
  · rw [e]; exact hk
  · exact h j (by omega)

end Go.Proofs.Ytddikbkodinmiaa
