/-
  MostBounds: what is common.
-/
import Derived.Test.YtcdahjkngejkeaaKnown17
import Derived.Test.YtcdahjkngejkeaaFitsOnePure
import Derived.Test.YtcdahjkngejkeaaLimOne
import Derived.Test.YtcdahjkngejkeaaRowBase
import Derived.Lib.MinMax
import Derived.Deep.CutRange
namespace Go.Proofs.Ytcdahjkngejkeaa
open Go.RowKit
set_option linter.unusedVariables false
set_option linter.unusedSimpArgs false
theorem w64_three {x y z : Int} (h1 : IntKind.i64.wrap x = x) (h2 : IntKind.i64.wrap y = y) (h3 : IntKind.i64.wrap z = z) : W64 [x, y, z] := by
  intro n hn
  simp only [List.mem_cons, List.not_mem_nil, or_false] at hn
  rcases hn with rfl | rfl | rfl
  · exact h1
  · exact h2
  · exact h3
theorem w64_rows (x : Int) (h : IntKind.i64.wrap x = x) : ∀ z ∈ [[-1, x, -1], [-1, -1, -1], [-1, -1, -1]], W64 z := by
  intro z hz
  simp only [List.mem_cons, List.not_mem_nil, or_false] at hz
  rcases hz with rfl | rfl | rfl
  · exact w64_three (by decide) h (by decide)
  · exact w64_three (by decide) (by decide) (by decide)
  · exact w64_three (by decide) (by decide) (by decide)
theorem w64_pos {x y : Int} (h : IntKind.i64.wrap x = x) (k : IntKind.i64.wrap y = y) : ∀ z ∈ [[0, x, 0], [y, 0, 0], [0, 0, 0]], W64 z := by
  intro z hz
  simp only [List.mem_cons, List.not_mem_nil, or_false] at hz
  rcases hz with rfl | rfl | rfl
  · exact w64_three (by decide) h (by decide)
  · exact w64_three k (by decide) (by decide)
  · exact w64_three (by decide) (by decide) (by decide)

/-- What one limit leaves of it. -/
def leaveV (u m p : Int) : Int := if 0 ≤ m then min u (m - p) else u
theorem most_one {bal rs bil mul pos cl : Int} (h1 : 0 ≤ bal ∧ bal ≤ 1000) (h3 : 0 ≤ rs ∧ rs ≤ 1000) (h4 : -1 ≤ bil ∧ bil ≤ 1000) (h5 : -1 ≤ mul ∧ mul ≤ 1000) (h6 : -1000 ≤ pos ∧ pos ≤ 1000) (hc : 1 ≤ cl ∧ cl ≤ 3) :
    max 0 (leaveV (leaveV (roomV bal 0 rs cl) bil pos) mul pos) = mostV (oneK bal 0 rs bil mul pos) 0 1 cl := by
  have e3 : (oneK bal 0 rs bil mul pos).A.length = 3 := rfl
  have ok : mostOk (oneK bal 0 rs bil mul pos).A.length 0 1 cl = true := by
    rw [e3]
    exact mostOk_yes.2 ⟨by omega, by omega, by omega, hc⟩
  have eA : capA (oneK bal 0 rs bil mul pos) 0 cl = bal + 0 - (if cl = 3 then rs else 0) := rfl
  have eL : capL (oneK bal 0 rs bil mul pos) 0 1 = if bil = -1 then 1099511627776 else bil - pos := rfl
  have n0 : netTo (oneK bal 0 rs bil mul pos).P 0 3 = pos := by
    simp only [netTo, oneK, at2, List.getD_cons_zero, List.getD_cons_succ]
    omega
  have eM : capM (oneK bal 0 rs bil mul pos) 0 = if mul = -1 then 1099511627776 else mul - pos := by
    unfold capM
    rw [e3, n0]
    rfl
  unfold mostV
  rw [if_pos ok, show (0 : Int).toNat = 0 from rfl, show (1 : Int).toNat = 1 from rfl]
  unfold capV
  rw [eA, eL, eM]
  unfold leaveV roomV
  repeat' split
  all_goals omega

end Go.Proofs.Ytcdahjkngejkeaa
