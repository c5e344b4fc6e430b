/-
  fits: one payment, by each bound of its own (plain lists).
-/
import Derived.Test.YtcdahjkngejkeaaFitsAll
import Derived.Test.YtcdahjkngejkeaaLimTwo
namespace Go.Proofs.Ytcdahjkngejkeaa
open Go.RowKit
set_option linter.unusedVariables false
set_option linter.unusedSimpArgs false

def oneK (bal cr rs bil mul pos : Int) : Bks := ⟨[(bal, cr, rs), (0, 0, 0), (0, 0, 0)], [[-1, bil, -1], [-1, -1, -1], [-1, -1, -1]], [mul, -1, -1], [[0, pos, 0], [-pos, 0, 0], [0, 0, 0]]⟩
theorem good_one {bal cr rs bil mul pos : Int} (h1 : 0 ≤ bal ∧ bal ≤ 1000) (h2 : 0 ≤ cr ∧ cr ≤ 1000) (h3 : 0 ≤ rs ∧ rs ≤ 1000) (h4 : -1 ≤ bil ∧ bil ≤ 1000) (h5 : -1 ≤ mul ∧ mul ≤ 1000) (h6 : -1000 ≤ pos ∧ pos ≤ 1000) : Good (oneK bal cr rs bil mul pos) := by
  have e3 : (oneK bal cr rs bil mul pos).A.length = 3 := rfl
  refine ⟨by rw [e3]; omega, by rw [e3]; omega, fun i hi => ?_, rfl, fun i hi => ?_, fun i k hi hk => ?_, rfl, fun i hi => ?_, rfl, fun i hi => ?_, fun i k hi hk => ?_, fun i k hi hk => ?_⟩
  · rw [e3] at hi
    unfold acctAt
    rw [acctB_yes]
    rcases (by omega : i = 0 ∨ i = 1 ∨ i = 2) with rfl | rfl | rfl <;> (simp only [oneK, List.getD_cons_zero, List.getD_cons_succ]; omega)
  · rw [e3] at hi
    rcases (by omega : i = 0 ∨ i = 1 ∨ i = 2) with rfl | rfl | rfl <;> rfl
  · rw [e3] at hi hk
    rcases (by omega : i = 0 ∨ i = 1 ∨ i = 2) with rfl | rfl | rfl <;> rcases (by omega : k = 0 ∨ k = 1 ∨ k = 2) with rfl | rfl | rfl <;> (simp only [oneK, at2, List.getD_cons_zero, List.getD_cons_succ]; unfold limB; exact decide_eq_true (by omega))
  · rw [e3] at hi
    rcases (by omega : i = 0 ∨ i = 1 ∨ i = 2) with rfl | rfl | rfl <;> (simp only [oneK, List.getD_cons_zero, List.getD_cons_succ]; unfold limB; exact decide_eq_true (by omega))
  · rw [e3] at hi
    rcases (by omega : i = 0 ∨ i = 1 ∨ i = 2) with rfl | rfl | rfl <;> rfl
  · rw [e3] at hi hk
    rcases (by omega : i = 0 ∨ i = 1 ∨ i = 2) with rfl | rfl | rfl <;> rcases (by omega : k = 0 ∨ k = 1 ∨ k = 2) with rfl | rfl | rfl <;> (simp only [oneK, at2, List.getD_cons_zero, List.getD_cons_succ]; exact posB_mk (by omega) (by omega))
  · rw [e3] at hi hk
    rcases (by omega : i = 0 ∨ i = 1 ∨ i = 2) with rfl | rfl | rfl <;> rcases (by omega : k = 0 ∨ k = 1 ∨ k = 2) with rfl | rfl | rfl <;> (simp only [oneK, at2, List.getD_cons_zero, List.getD_cons_succ] <;> omega)

theorem sumS_one (f : P7 → Int) (p : P7) : sumS f [p] = f p := by simp [sumS]
/-- It fits just if there is room, and neither limit is passed. -/
theorem fits_one {bal cr rs bil mul pos am cl : Int} (h1 : 0 ≤ rs) (h4 : -1 ≤ bil) (h5 : -1 ≤ mul) (ha : 1 ≤ am ∧ am ≤ 2000) (hc : 1 ≤ cl ∧ cl ≤ 3) :
    fitsB (oneK bal cr rs bil mul pos) [(1, 0, 1, am, cl, 0, 0)] = (decide (am ≤ roomV bal cr rs cl) && ((decide (bil < 0) || decide (pos + am ≤ bil)) && (decide (mul < 0) || decide (pos + am ≤ mul)))) := by
  have e3 : (oneK bal cr rs bil mul pos).A.length = 3 := rfl
  have hall : allB (oneK bal cr rs bil mul pos) [(1, 0, 1, am, cl, 0, 0)] = true := by
    unfold allB
    rw [e3, Bool.and_eq_true, decide_eq_true_eq, List.all_eq_true]
    refine ⟨fun p hp => ?_, by simp⟩
    obtain rfl := List.mem_singleton.1 hp
    exact mayB_yes.2 ⟨by show (0 : Int) ≤ 0 ∧ (0 : Int) < ((3 : Nat) : Int); omega, by show (0 : Int) ≤ 1 ∧ (1 : Int) < ((3 : Nat) : Int); omega, by show ¬ (0 : Int) = 1; omega, by show 1 ≤ am ∧ am ≤ 1099511627776; omega, by show 1 ≤ cl ∧ cl ≤ 3; omega⟩
  have sent : ∀ i k : Int, sentS [(1, 0, 1, am, cl, 0, 0)] i k = if (0 : Int) = i ∧ (1 : Int) = k then am else 0 := fun i k => sumS_one _ _
  have plain : ∀ i : Int, plainS [(1, 0, 1, am, cl, 0, 0)] i = if (0 : Int) = i ∧ cl = 3 then am else 0 := fun i => sumS_one _ _
  have spent : ∀ i : Int, spentS [(1, 0, 1, am, cl, 0, 0)] i = if (0 : Int) = i ∧ ¬ cl = 3 then am else 0 := fun i => sumS_one _ _
  have no : ∀ i : Nat, 0 < i → shortB (oneK bal cr rs bil mul pos) [(1, 0, 1, am, cl, 0, 0)] 3 i = false := by
    intro i hi
    unfold shortB
    rw [plain, spent, if_neg (by omega), if_neg (by omega)]
    simp
  have d0 : dTo [(1, 0, 1, am, cl, 0, 0)] ((0 : Nat) : Int) 3 = am := by
    simp only [dTo, netS, sent]
    simp
  have n0 : netTo (oneK bal cr rs bil mul pos).P 0 3 = pos := by
    simp only [netTo, oneK, at2, List.getD_cons_zero, List.getD_cons_succ]
    omega
  have ov : ∀ k, k < 3 → overB (oneK bal cr rs bil mul pos) [(1, 0, 1, am, cl, 0, 0)] 0 k = (decide (k = 1) && (decide (¬ bil = -1) && decide (bil < pos + am))) := by
    intro k hk
    unfold overB
    simp only [netS, sent]
    rcases (by omega : k = 0 ∨ k = 1 ∨ k = 2) with rfl | rfl | rfl
    · simp
    · have e : (0 : Int) < am := by omega
      simp [oneK, at2, e]
    · simp
  have hany : (List.range 3).any (overB (oneK bal cr rs bil mul pos) [(1, 0, 1, am, cl, 0, 0)] 0) = (decide (¬ bil = -1) && decide (bil < pos + am)) := by
    rw [show List.range 3 = [0, 1, 2] from rfl]
    simp only [List.any_cons, List.any_nil]
    rw [ov 0 (by omega), ov 1 (by omega), ov 2 (by omega)]
    simp
  have hlow : lowB (oneK bal cr rs bil mul pos) [(1, 0, 1, am, cl, 0, 0)] 3 0 = !decide (am ≤ roomV bal cr rs cl) := by
    unfold lowB
    rw [d0, plain, spent]
    simp only [oneK, List.getD_cons_zero]
    by_cases h : cl = 3
    · have hk : keptV rs 0 = rs := by unfold keptV; split <;> omega
      rw [if_pos ⟨rfl, h⟩, if_neg (by omega), hk, h, ← room_normal, Bool.eq_iff_iff]
      simp only [Bool.or_eq_true, Bool.and_eq_true, decide_eq_true_eq, Bool.not_eq_true', decide_eq_false_iff_not]
      omega
    · rw [if_neg (by omega), if_pos ⟨rfl, h⟩, ← room_other h, Bool.eq_iff_iff]
      simp only [Bool.or_eq_true, Bool.and_eq_true, decide_eq_true_eq, Bool.not_eq_true', decide_eq_false_iff_not]
      omega
  have hwide : wideB (oneK bal cr rs bil mul pos) [(1, 0, 1, am, cl, 0, 0)] 3 0 = (decide (¬ mul = -1) && decide (mul < pos + am)) := by
    unfold wideB
    rw [d0, n0]
    rfl
  have hs : shortB (oneK bal cr rs bil mul pos) [(1, 0, 1, am, cl, 0, 0)] 3 0 = ((decide (¬ bil = -1) && decide (bil < pos + am)) || ((!decide (am ≤ roomV bal cr rs cl)) || (decide (¬ mul = -1) && decide (mul < pos + am)))) := by
    unfold shortB
    rw [hany, hlow, hwide, plain, spent]
    have : decide (¬ (if (0 : Int) = ((0 : Nat) : Int) ∧ cl = 3 then am else 0) + (if (0 : Int) = ((0 : Nat) : Int) ∧ ¬ cl = 3 then am else 0) = 0) = true := by
      rw [decide_eq_true_eq]
      by_cases h : cl = 3
      · rw [if_pos ⟨rfl, h⟩, if_neg (by omega)]; omega
      · rw [if_neg (by omega), if_pos ⟨rfl, h⟩]; omega
    rw [this, Bool.true_and]
  have hsl : (shortL (oneK bal cr rs bil mul pos) [(1, 0, 1, am, cl, 0, 0)]).length = if shortB (oneK bal cr rs bil mul pos) [(1, 0, 1, am, cl, 0, 0)] 3 0 = true then 1 else 0 := by
    unfold shortL
    rw [e3, show List.range 3 = [0, 1, 2] from rfl, List.filter_cons, List.filter_cons, List.filter_cons, no 1 (by omega), no 2 (by omega)]
    split <;> simp
  unfold fitsB
  rw [hall, hsl, hs, Bool.true_and, Bool.eq_iff_iff]
  simp only [Bool.or_eq_true, Bool.and_eq_true, decide_eq_true_eq, Bool.not_eq_true', decide_eq_false_iff_not]
  split <;> omega

end Go.Proofs.Ytcdahjkngejkeaa
