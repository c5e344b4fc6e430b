/-
  post: payments are posted, as plain lists.
-/
import Derived.Test.YthpcpbjgihhjeaaFitsAll
import Derived.Test.YthpcpbjgihhjeaaLimTwo
namespace Go.Proofs.Ythpcpbjgihhjeaa
open Go.RowKit
set_option linter.unusedVariables false
set_option linter.unusedSimpArgs false

/-- An account behind them; a position; the books. n: how many parties. -/
def postA (b : Bks) (L : List P7) (n i : Nat) : A3 := ((b.A.getD i a30).1 - dTo L i n, (b.A.getD i a30).2.1, keptV (b.A.getD i a30).2.2 (spentS L i))
def postP (b : Bks) (L : List P7) (n i : Nat) : List Int := (List.range n).map fun k => at2 b.P i k + netS L i k
def postB (b : Bks) (L : List P7) : Bks := ⟨(List.range b.A.length).map (postA b L b.A.length), b.B, b.M, (List.range b.A.length).map (postP b L b.A.length)⟩
/-- Which error; what is answered. -/
def postE (b : Bks) (L : List P7) : Int := if allB b L then (if booksB (postB b L) then 0 else 8) else 1
def postR (b : Bks) (L : List P7) : Bks := if allB b L && booksB (postB b L) then postB b L else b

theorem postB_len (b : Bks) (L : List P7) : (postB b L).A.length = b.A.length := by simp [postB]
theorem postB_acct (b : Bks) (L : List P7) {i : Nat} (h : i < b.A.length) : (postB b L).A.getD i a30 = postA b L b.A.length i := by simp [postB, h]
theorem postB_row (b : Bks) (L : List P7) {i : Nat} (h : i < b.A.length) : (postB b L).P.getD i [] = postP b L b.A.length i := by simp [postB, h]
theorem postB_at (b : Bks) (L : List P7) {i k : Nat} (h : i < b.A.length) (hk : k < b.A.length) : at2 (postB b L).P i k = at2 b.P i k + netS L i k := by
  unfold at2
  rw [postB_row b L h]
  simp [postP, hk]
  rfl
theorem netS_turn (L : List P7) (i k : Int) : netS L i k = -netS L k i := by unfold netS; omega
theorem netS_append (L M : List P7) (i k : Int) : netS (L ++ M) i k = netS L i k + netS M i k := by
  unfold netS sentS
  rw [sumS_append, sumS_append]
  omega
theorem dTo_append (L M : List P7) (i : Int) (n : Nat) : dTo (L ++ M) i n = dTo L i n + dTo M i n := by
  induction n with
  | zero => rfl
  | succ n ih => simp only [dTo, ih, netS_append]; omega
theorem spentS_append (L M : List P7) (i : Int) : spentS (L ++ M) i = spentS L i + spentS M i := sumS_append _ _ _
theorem keptV_twice {r x y : Int} (hx : 0 ≤ x) (hy : 0 ≤ y) : keptV (keptV r x) y = keptV r (x + y) := by
  by_cases h : r ≤ x
  · rw [← kept_none h, ← kept_none (show (0 : Int) ≤ y by omega), ← kept_none (show r ≤ x + y by omega)]
  · rw [← kept_some (show x < r by omega)]
    by_cases k : r - x ≤ y
    · rw [← kept_none k, ← kept_none (show r ≤ x + y by omega)]
    · rw [← kept_some (show y < r - x by omega), ← kept_some (show x + y < r by omega)]
      omega
/-- In which order, does not matter. -/
theorem postB_perm (b : Bks) {L M : List P7} (h : L.Perm M) : postB b L = postB b M := by
  have ea : postA b L b.A.length = postA b M b.A.length := by
    funext i
    unfold postA
    rw [dTo_perm h]
    unfold spentS
    rw [sumS_perm _ h]
  have ep : postP b L b.A.length = postP b M b.A.length := by
    funext i
    unfold postP
    refine List.map_congr_left fun k _ => ?_
    rw [netS_perm h]
  unfold postB
  rw [ea, ep]
/-- Two posts, or one. -/
theorem postB_twice (b : Bks) (L M : List P7) (hL : ∀ i : Int, 0 ≤ spentS L i) (hM : ∀ i : Int, 0 ≤ spentS M i) : postB (postB b L) M = postB b (L ++ M) := by
  have hl := postB_len b L
  have ea : (List.range b.A.length).map (postA (postB b L) M b.A.length) = (List.range b.A.length).map (postA b (L ++ M) b.A.length) := by
    refine List.map_congr_left fun i hi => ?_
    have hi := List.mem_range.1 hi
    unfold postA
    rw [postB_acct b L hi]
    unfold postA
    simp only []
    rw [dTo_append, spentS_append, keptV_twice (hL _) (hM _), Int.sub_sub]
  have ep : (List.range b.A.length).map (postP (postB b L) M b.A.length) = (List.range b.A.length).map (postP b (L ++ M) b.A.length) := by
    refine List.map_congr_left fun i hi => ?_
    have hi := List.mem_range.1 hi
    unfold postP
    refine List.map_congr_left fun k hk => ?_
    have hk := List.mem_range.1 hk
    rw [postB_at b L hi hk, netS_append, Int.add_assoc]
  show Bks.mk _ _ _ _ = Bks.mk _ _ _ _
  rw [hl, ea, ep]
  rfl

/-- What fits leaves nobody that sends too low, nor beyond a limit. -/
theorem fits_floor {b : Bks} {L : List P7} (h : fitsB b L = true) {i : Nat} (hi : i < b.A.length) (hs : ¬ plainS L i + spentS L i = 0) :
    0 ≤ (postA b L b.A.length i).1 + (postA b L b.A.length i).2.1 ∧ (0 < plainS L i → (postA b L b.A.length i).2.2 ≤ (postA b L b.A.length i).1 + (postA b L b.A.length i).2.1) ∧
      (∀ k, k < b.A.length → 0 < sentS L i k → at2 b.B i k = -1 ∨ at2 b.P i k + netS L i k ≤ at2 b.B i k) ∧ (b.M.getD i 0 = -1 ∨ netTo b.P i b.A.length + dTo L i b.A.length ≤ b.M.getD i 0) := by
  unfold fitsB at h
  rw [Bool.and_eq_true, decide_eq_true_eq, List.length_eq_zero_iff] at h
  have hno : shortB b L b.A.length i = false := by
    rw [Bool.eq_false_iff]
    intro hy
    have : i ∈ shortL b L := List.mem_filter.2 ⟨List.mem_range.2 hi, hy⟩
    rw [h.2] at this
    simp at this
  unfold shortB at hno
  rw [decide_eq_true hs, Bool.true_and, Bool.or_eq_false_iff, Bool.or_eq_false_iff] at hno
  obtain ⟨h1, h2, h3⟩ := hno
  unfold lowB at h2
  rw [Bool.or_eq_false_iff, decide_eq_false_iff_not, Bool.and_eq_false_iff, decide_eq_false_iff_not, decide_eq_false_iff_not] at h2
  unfold wideB at h3
  rw [Bool.and_eq_false_iff, decide_eq_false_iff_not, decide_eq_false_iff_not] at h3
  unfold postA
  simp only []
  refine ⟨by omega, fun hp => by omega, fun k hk hsk => ?_, by omega⟩
  have h4 : overB b L i k = false := by
    rw [Bool.eq_false_iff]
    intro hy
    rw [List.any_eq_true.2 ⟨k, List.mem_range.2 hk, hy⟩] at h1
    exact Bool.noConfusion h1
  unfold overB at h4
  rw [decide_eq_true hsk, Bool.true_and, Bool.and_eq_false_iff, decide_eq_false_iff_not, decide_eq_false_iff_not] at h4
  omega

/-- What all have together stays. -/
def balTo (A : List A3) : Nat → Int
  | 0 => 0
  | i + 1 => balTo A i + (A.getD i a30).1
def netR (L : List P7) (n : Nat) : List (List Int) := (List.range n).map fun i : Nat => (List.range n).map fun k : Nat => netS L (i : Int) (k : Int)
theorem netR_at (L : List P7) {n i k : Nat} (hi : i < n) (hk : k < n) : at2 (netR L n) i k = netS L i k := by simp [at2, netR, hi, hk]
theorem netR_to (L : List P7) {n i : Nat} (hi : i < n) : ∀ k, k ≤ n → netTo (netR L n) i k = dTo L i k := by
  intro k
  induction k with
  | zero => intro _; rfl
  | succ k ih => intro hk; simp only [netTo, dTo, ih (by omega), netR_at L hi (show k < n by omega)]
theorem netR_sum (L : List P7) (n : Nat) : netSum (netR L n) n n = 0 := netSum_zero fun i k hi hk => by
  rw [netR_at L hi hk, netR_at L hk hi]
  exact netS_turn L i k
theorem balTo_post (b : Bks) (L : List P7) : ∀ i, i ≤ b.A.length → balTo (postB b L).A i = balTo b.A i - netSum (netR L b.A.length) b.A.length i := by
  intro i
  induction i with
  | zero => intro _; simp [balTo, netSum]
  | succ i ih =>
    intro hi
    have e : ((postB b L).A.getD i a30).1 = (b.A.getD i a30).1 - dTo L i b.A.length := by rw [postB_acct b L (by omega)]; rfl
    simp only [balTo, netSum, ih (by omega), e, netR_to L (show i < b.A.length by omega) _ (Nat.le_refl _)]
    omega
theorem balTo_stays (b : Bks) (L : List P7) : balTo (postB b L).A b.A.length = balTo b.A b.A.length := by
  rw [balTo_post b L _ (Nat.le_refl _), netR_sum]
  omega

end Go.Proofs.Ythpcpbjgihhjeaa
