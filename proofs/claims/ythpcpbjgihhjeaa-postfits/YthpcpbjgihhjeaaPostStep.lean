/-
  What one payment more moves; one party, one other more: as plain functions.
-/
import Derived.Test.YthpcpbjgihhjeaaPostMove
import Derived.Test.YthpcpbjgihhjeaaFitsRefAll
namespace Go.Proofs.Ythpcpbjgihhjeaa
open Go.RowKit
set_option linter.unusedVariables false
set_option linter.unusedSimpArgs false

theorem netS_one (p : P7) (i k : Int) : netS [p] i k = sentG i k p - sentG k i p := by unfold netS sentS sumS sumS; omega
theorem dTo_one {p : P7} {f t : Nat} (hf : p.fr = f) (ht : p.to = t) (hne : ¬ f = t) (i : Nat) (m : Nat) : dTo [p] i m = (if i = f ∧ t < m then p.am else 0) - (if i = t ∧ f < m then p.am else 0) := by
  induction m with
  | zero => simp [dTo]
  | succ m ih =>
    simp only [dTo, ih, netS_one]
    unfold sentG
    rw [hf, ht]
    have e1 : ((f : Int) = (i : Int) ∧ (t : Int) = (m : Int)) ↔ (f = i ∧ t = m) := by omega
    have e2 : ((f : Int) = (m : Int) ∧ (t : Int) = (i : Int)) ↔ (f = m ∧ t = i) := by omega
    simp only [e1, e2]
    by_cases h1 : i = f
    · have h2 : ¬ i = t := by omega
      by_cases h3 : t = m
      · rw [if_neg (by omega), if_neg (by omega), if_pos (by omega), if_neg (by omega), if_pos (by omega), if_neg (by omega)]; omega
      · rw [if_neg (show ¬ (f = i ∧ t = m) by omega), if_neg (show ¬ (f = m ∧ t = i) by omega), if_neg (show ¬ (i = t ∧ f < m) by omega), if_neg (show ¬ (i = t ∧ f < m + 1) by omega)]
        by_cases h4 : t < m
        · rw [if_pos ⟨h1, h4⟩, if_pos ⟨h1, by omega⟩]; omega
        · rw [if_neg (by omega), if_neg (by omega)]; omega
    · by_cases h2 : i = t
      · by_cases h3 : f = m
        · rw [if_neg (show ¬ (f = i ∧ t = m) by omega), if_pos (show f = m ∧ t = i by omega), if_neg (show ¬ (i = f ∧ t < m) by omega), if_neg (show ¬ (i = t ∧ f < m) by omega), if_neg (show ¬ (i = f ∧ t < m + 1) by omega), if_pos (show i = t ∧ f < m + 1 by omega)]; omega
        · rw [if_neg (show ¬ (f = i ∧ t = m) by omega), if_neg (show ¬ (f = m ∧ t = i) by omega), if_neg (show ¬ (i = f ∧ t < m) by omega), if_neg (show ¬ (i = f ∧ t < m + 1) by omega)]
          by_cases h4 : f < m
          · rw [if_pos ⟨h2, h4⟩, if_pos ⟨h2, by omega⟩]; omega
          · rw [if_neg (by omega), if_neg (by omega)]; omega
      · rw [if_neg (show ¬ (f = i ∧ t = m) by omega), if_neg (show ¬ (f = m ∧ t = i) by omega), if_neg (show ¬ (i = f ∧ t < m) by omega), if_neg (show ¬ (i = t ∧ f < m) by omega), if_neg (show ¬ (i = f ∧ t < m + 1) by omega), if_neg (show ¬ (i = t ∧ f < m + 1) by omega)]; omega
theorem keptV_zero {r : Int} (h : 0 ≤ r) : keptV r 0 = r := by unfold keptV; split <;> omega
theorem spentS_one (p : P7) (i : Int) : spentS [p] i = spentG i p := by unfold spentS sumS sumS; omega

/-- The balances, and what is kept, with one more. -/
theorem movA_post (b : Bks) (L : List P7) {p : P7} {n f t : Nat} (hf : p.fr = f) (ht : p.to = t) (hne : ¬ f = t) (hfn : f < n) (htn : t < n) (ham : 0 ≤ p.am) (hs : ∀ i : Int, 0 ≤ spentS L i) (hr : ∀ i, i < n → 0 ≤ (b.A.getD i a30).2.2) :
    ∀ i, i < n → movA (postA b L n) f t p.am p.cl i = postA b (L ++ [p]) n i := by
  intro i hi
  unfold movA postA
  simp only []
  rw [dTo_append, dTo_one hf ht hne, spentS_append, spentS_one]
  unfold spentG
  rw [hf]
  by_cases h1 : i = f
  · subst h1
    have h2 : ¬ i = t := hne
    have q1 : i = i ∧ t < n := ⟨rfl, htn⟩
    have q2 : ¬ (i = t ∧ i < n) := fun e => h2 e.1
    rw [if_pos (show i = i from rfl), if_pos q1, if_neg q2]
    by_cases h3 : p.cl = 3
    · have q3 : ¬ ((i : Int) = (i : Int) ∧ ¬ p.cl = 3) := fun e => e.2 h3
      rw [if_pos h3, if_neg q3]
      refine Prod.ext (by show _ - _ - _ = _ - (_ + _); omega) (Prod.ext rfl ?_)
      show keptV _ _ = keptV _ (_ + 0)
      rw [Int.add_zero]
    · have q3 : (i : Int) = (i : Int) ∧ ¬ p.cl = 3 := ⟨rfl, h3⟩
      rw [if_neg h3, if_pos q3]
      refine Prod.ext (by show _ - _ - _ = _ - (_ + _); omega) (Prod.ext rfl ?_)
      show keptV (keptV _ _) _ = keptV _ (_ + _)
      exact keptV_twice (hs _) ham
  · have q1 : ¬ (i = f ∧ t < n) := fun e => h1 e.1
    have q2 : ¬ ((f : Int) = (i : Int) ∧ ¬ p.cl = 3) := by omega
    rw [if_neg h1, if_neg q1, if_neg q2]
    by_cases h2 : i = t
    · subst h2
      have q3 : i = i ∧ f < n := ⟨rfl, hfn⟩
      rw [if_pos (show i = i from rfl), if_pos q3]
      refine Prod.ext (by show _ - _ + _ = _ - (_ + _); omega) (Prod.ext rfl ?_)
      show keptV _ _ = keptV _ (_ + 0)
      rw [Int.add_zero]
    · have q3 : ¬ (i = t ∧ f < n) := fun e => h2 e.1
      rw [if_neg h2, if_neg q3]
      refine Prod.ext (by show _ - _ = _ - (_ + _); omega) (Prod.ext rfl ?_)
      show keptV _ _ = keptV _ (_ + 0)
      rw [Int.add_zero]
/-- The positions, with one more. -/
theorem movP_post (b : Bks) (L : List P7) {p : P7} {f t : Nat} (hf : p.fr = f) (ht : p.to = t) (hne : ¬ f = t) (i k : Nat) :
    movP (fun i k => at2 b.P i k + netS L i k) f t p.am i k = at2 b.P i k + netS (L ++ [p]) i k := by
  unfold movP
  simp only []
  rw [netS_append, netS_one]
  unfold sentG
  rw [hf, ht]
  by_cases h1 : i = f ∧ k = t
  · obtain ⟨rfl, rfl⟩ := h1
    have q1 : i = i ∧ k = k := ⟨rfl, rfl⟩
    have q2 : (i : Int) = (i : Int) ∧ (k : Int) = (k : Int) := ⟨rfl, rfl⟩
    have q3 : ¬ ((i : Int) = (k : Int) ∧ (k : Int) = (i : Int)) := by omega
    rw [if_pos q1, if_pos q2, if_neg q3]; omega
  · rw [if_neg h1, if_neg (show ¬ ((f : Int) = (i : Int) ∧ (t : Int) = (k : Int)) by omega)]
    by_cases h2 : i = t ∧ k = f
    · obtain ⟨rfl, rfl⟩ := h2
      have q1 : i = i ∧ k = k := ⟨rfl, rfl⟩
      have q2 : (k : Int) = (k : Int) ∧ (i : Int) = (i : Int) := ⟨rfl, rfl⟩
      rw [if_pos q1, if_pos q2]; omega
    · rw [if_neg h2, if_neg (show ¬ ((f : Int) = (k : Int) ∧ (t : Int) = (i : Int)) by omega)]; omega
/-- None posted. -/
theorem postA_nil (b : Bks) (n : Nat) (hr : ∀ i, i < n → 0 ≤ (b.A.getD i a30).2.2) : ∀ i, i < n → b.A.getD i a30 = postA b [] n i := by
  intro i hi
  have hd : ∀ m, dTo [] (i : Int) m = 0 := by
    intro m
    induction m with
    | zero => rfl
    | succ m ih => simp [dTo, ih, netS, sentS, sumS]
  unfold postA
  rw [hd, Int.sub_zero]
  show _ = (_, _, keptV _ (spentS [] _))
  rw [show spentS [] (i : Int) = 0 from rfl, keptV_zero (hr i hi)]
theorem postP_nil (b : Bks) (i k : Nat) : at2 b.P i k = at2 b.P i k + netS [] i k := by simp [netS, sentS, sumS]

/-- What is posted of good books can be held. -/
theorem Good.reserve {b : Bks} (g : Good b) : ∀ i, i < b.A.length → 0 ≤ (b.A.getD i a30).2.2 ∧ (b.A.getD i a30).2.2 ≤ 2305843009213693952 ∧ -4611686018427387904 < (b.A.getD i a30).1 ∧ (b.A.getD i a30).1 < 4611686018427387904 := by
  intro i hi
  have := g.acc i hi
  unfold acctAt at this
  rw [acctB_yes] at this
  omega
theorem post_range {b : Bks} (g : Good b) {L : List P7} (h : MvPays L) (hl : L.length ≤ 64) : ∀ i, i < b.A.length → -5000000000000000000 ≤ (postA b L b.A.length i).1 ∧ (postA b L b.A.length i).1 ≤ 5000000000000000000 ∧ 0 ≤ (postA b L b.A.length i).2.2 ∧ (postA b L b.A.length i).2.2 ≤ 2305843009213693952 := by
  intro i hi
  have h1 := g.reserve i hi
  have h2 := dTo_range h hl (i : Int) b.A.length
  have h3 := g.n6
  have h4 := keptV_range h1.1 (h.spent hl (i : Int)).1
  unfold postA
  simp only []
  have h5 : (b.A.length * 70368744177664 : Int) ≤ 6 * 70368744177664 := by
    have : (b.A.length : Int) ≤ 6 := by omega
    omega
  omega
theorem post_pos {b : Bks} (g : Good b) {L : List P7} (h : MvPays L) (hl : L.length ≤ 64) : ∀ i k, i < b.A.length → k < b.A.length → -100000000000000000 ≤ at2 b.P i k + netS L i k ∧ at2 b.P i k + netS L i k ≤ 100000000000000000 := by
  intro i k hi hk
  have h1 := posB_yes (g.may i k hi hk)
  have h2 := netS_range h hl (i : Int) (k : Int)
  omega
theorem postB_mk (b : Bks) (L : List P7) : postB b L = ⟨mkA b.A.length (postA b L b.A.length), b.B, b.M, mkP b.A.length fun i k => at2 b.P i k + netS L i k⟩ := rfl

end Go.Proofs.Ythpcpbjgihhjeaa
