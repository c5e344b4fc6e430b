/-
  most: how much one may send, as plain numbers: one payment alone fits just if its amount is of 1 to a cap.
-/
import Derived.Test.YtcdahjkngejkeaaPostAll
namespace Go.Proofs.Ytcdahjkngejkeaa
open Go.RowKit
set_option linter.unusedVariables false
set_option linter.unusedSimpArgs false

/-- What each bound leaves; the least of them. -/
def capA (b : Bks) (f : Nat) (cl : Int) : Int := (b.A.getD f a30).1 + (b.A.getD f a30).2.1 - (if cl = 3 then (b.A.getD f a30).2.2 else 0)
def capL (b : Bks) (f t : Nat) : Int := if at2 b.B f t = -1 then 1099511627776 else at2 b.B f t - at2 b.P f t
def capM (b : Bks) (f : Nat) : Int := if b.M.getD f 0 = -1 then 1099511627776 else b.M.getD f 0 - netTo b.P f b.A.length
def capV (b : Bks) (f t : Nat) (cl : Int) : Int := min (min 1099511627776 (capA b f cl)) (min (capL b f t) (capM b f))
theorem capV_le (b : Bks) (f t : Nat) (cl a : Int) : a ≤ capV b f t cl ↔ a ≤ 1099511627776 ∧ a ≤ capA b f cl ∧ a ≤ capL b f t ∧ a ≤ capM b f := by
  unfold capV
  rw [Int.le_min, Int.le_min, Int.le_min, and_assoc]
/-- May there be a payment of these among n parties? -/
def mostOk (n : Nat) (f t cl : Int) : Bool := decide (0 ≤ f ∧ f < n) && (decide (0 ≤ t ∧ t < n) && (f != t && decide (1 ≤ cl ∧ cl ≤ 3)))
theorem mostOk_yes {n : Nat} {f t cl : Int} : mostOk n f t cl = true ↔ (0 ≤ f ∧ f < n) ∧ (0 ≤ t ∧ t < n) ∧ ¬ f = t ∧ (1 ≤ cl ∧ cl ≤ 3) := by simp [mostOk]
/-- How much one may send. -/
def mostV (b : Bks) (f t cl : Int) : Int := if mostOk b.A.length f t cl then max 0 (capV b f.toNat t.toNat cl) else 0

theorem plainS_one (p : P7) (i : Int) : plainS [p] i = plainG i p := by unfold plainS sumS sumS; omega
theorem sentS_one (p : P7) (i k : Int) : sentS [p] i k = sentG i k p := by unfold sentS sumS sumS; omega

theorem fits_alone {b : Bks} (g : Good b) {p : P7} {f t : Nat} (hf : p.fr = f) (ht : p.to = t) (hfn : f < b.A.length) (htn : t < b.A.length) (hne : ¬ f = t) (hc : 1 ≤ p.cl ∧ p.cl ≤ 3) :
    fitsB b [p] = decide (1 ≤ p.am ∧ p.am ≤ capV b f t p.cl) := by
  have hres := (g.reserve f hfn).1
  rw [Bool.eq_iff_iff, decide_eq_true_eq, capV_le]
  have eall : allB b [p] = true ↔ 1 ≤ p.am ∧ p.am ≤ 1099511627776 := by
    unfold allB
    rw [Bool.and_eq_true, decide_eq_true_eq]
    simp only [List.all_cons, List.all_nil, Bool.and_true, List.length_cons, List.length_nil]
    rw [mayB_yes]
    constructor
    · rintro ⟨⟨_, _, _, h, _⟩, _⟩; exact h
    · intro h; exact ⟨⟨by omega, by omega, by omega, h, hc⟩, by omega⟩
  have hd : dTo [p] (f : Int) b.A.length = p.am := by
    rw [dTo_one hf ht hne]
    have q1 : f = f ∧ t < b.A.length := ⟨rfl, htn⟩
    have q2 : ¬ (f = t ∧ f < b.A.length) := fun h => hne h.1
    rw [if_pos q1, if_neg q2]
    omega
  have hnt : netS [p] (f : Int) (t : Int) = p.am := by
    rw [netS_one]
    unfold sentG
    have q1 : p.fr = (f : Int) ∧ p.to = (t : Int) := ⟨hf, ht⟩
    have q2 : ¬ (p.fr = (t : Int) ∧ p.to = (f : Int)) := fun h => hne (by have := h.1; omega)
    rw [if_pos q1, if_neg q2]
    omega
  have hsum : plainS [p] (f : Int) + spentS [p] (f : Int) = p.am := by
    rw [plainS_one, spentS_one]
    unfold plainG spentG
    by_cases h3 : p.cl = 3
    · have q1 : p.fr = (f : Int) ∧ p.cl = 3 := ⟨hf, h3⟩
      have q2 : ¬ (p.fr = (f : Int) ∧ ¬ p.cl = 3) := fun h => h.2 h3
      rw [if_pos q1, if_neg q2]; omega
    · have q1 : ¬ (p.fr = (f : Int) ∧ p.cl = 3) := fun h => h3 h.2
      have q2 : p.fr = (f : Int) ∧ ¬ p.cl = 3 := ⟨hf, h3⟩
      rw [if_neg q1, if_pos q2]; omega
  have hpl : plainS [p] (f : Int) = if p.cl = 3 then p.am else 0 := by
    rw [plainS_one]
    unfold plainG
    by_cases h3 : p.cl = 3
    · have q1 : p.fr = (f : Int) ∧ p.cl = 3 := ⟨hf, h3⟩
      rw [if_pos q1, if_pos h3]
    · have q1 : ¬ (p.fr = (f : Int) ∧ p.cl = 3) := fun h => h3 h.2
      rw [if_neg q1, if_neg h3]
  have hsp : p.cl = 3 → spentS [p] (f : Int) = 0 := fun h3 => by
    have := hsum
    rw [hpl, if_pos h3] at this
    omega
  have hshort : 1 ≤ p.am → p.am ≤ 1099511627776 → (shortB b [p] b.A.length f = false ↔ p.am ≤ capA b f p.cl ∧ p.am ≤ capL b f t ∧ p.am ≤ capM b f) := fun ha hb => by
    have hover : ((List.range b.A.length).any (overB b [p] f) = false) ↔ p.am ≤ capL b f t := by
      unfold capL
      constructor
      · intro h
        have ht2 : overB b [p] f t = false := by
          rw [Bool.eq_false_iff]
          intro hy
          rw [List.any_eq_true.2 ⟨t, List.mem_range.2 htn, hy⟩] at h
          exact Bool.noConfusion h
        unfold overB at ht2
        rw [sentS_one, hnt] at ht2
        unfold sentG at ht2
        have q1 : p.fr = (f : Int) ∧ p.to = (t : Int) := ⟨hf, ht⟩
        rw [if_pos q1, decide_eq_true (by omega : 0 < p.am), Bool.true_and, Bool.and_eq_false_iff, decide_eq_false_iff_not, decide_eq_false_iff_not] at ht2
        split <;> omega
      · intro h
        rw [Bool.eq_false_iff]
        intro hy
        obtain ⟨k, hk, ho⟩ := List.any_eq_true.1 hy
        unfold overB at ho
        rw [Bool.and_eq_true, Bool.and_eq_true, decide_eq_true_eq, decide_eq_true_eq, decide_eq_true_eq, sentS_one] at ho
        obtain ⟨h1, h2, h3⟩ := ho
        unfold sentG at h1
        by_cases hkt : p.fr = (f : Int) ∧ p.to = (k : Int)
        · have : k = t := by have := hkt.2; omega
          subst this
          rw [hnt] at h3
          rw [if_neg h2] at h
          omega
        · rw [if_neg hkt] at h1
          omega
    have hlow : lowB b [p] b.A.length f = false ↔ p.am ≤ capA b f p.cl := by
      unfold lowB capA
      rw [hd, hpl, Bool.or_eq_false_iff, Bool.and_eq_false_iff, decide_eq_false_iff_not, decide_eq_false_iff_not, decide_eq_false_iff_not]
      by_cases h3 : p.cl = 3
      · rw [if_pos h3, if_pos h3, hsp h3, keptV_zero hres]
        omega
      · rw [if_neg h3, if_neg h3]
        omega
    have hwide : wideB b [p] b.A.length f = false ↔ p.am ≤ capM b f := by
      unfold wideB capM
      rw [hd, Bool.and_eq_false_iff, decide_eq_false_iff_not, decide_eq_false_iff_not]
      split <;> omega
    unfold shortB
    rw [decide_eq_true (by omega : ¬ plainS [p] (f : Int) + spentS [p] (f : Int) = 0), Bool.true_and, Bool.or_eq_false_iff, Bool.or_eq_false_iff, hover, hlow, hwide]
    exact ⟨fun h => ⟨h.2.1, h.1, h.2.2⟩, fun h => ⟨h.2.1, h.1, h.2.2⟩⟩
  have hothers : ∀ i, i < b.A.length → ¬ i = f → shortB b [p] b.A.length i = false := fun i hi hif => by
    unfold shortB
    have z : plainS [p] (i : Int) + spentS [p] (i : Int) = 0 := by
      rw [plainS_one, spentS_one]
      unfold plainG spentG
      have q1 : ¬ (p.fr = (i : Int) ∧ p.cl = 3) := fun h => hif (by have := h.1; omega)
      have q2 : ¬ (p.fr = (i : Int) ∧ ¬ p.cl = 3) := fun h => hif (by have := h.1; omega)
      rw [if_neg q1, if_neg q2]
      rfl
    rw [decide_eq_false (by omega : ¬ ¬ plainS [p] (i : Int) + spentS [p] (i : Int) = 0), Bool.false_and]
  have hlist : (shortL b [p]).length = 0 ↔ shortB b [p] b.A.length f = false := by
    unfold shortL
    rw [List.length_eq_zero_iff, List.filter_eq_nil_iff]
    constructor
    · intro h
      have := h f (List.mem_range.2 hfn)
      simpa using this
    · intro h i hi
      by_cases hif : i = f
      · rw [hif, h]; simp
      · rw [hothers i (List.mem_range.1 hi) hif]; simp
  unfold fitsB
  rw [Bool.and_eq_true, decide_eq_true_eq, eall, hlist]
  constructor
  · rintro ⟨⟨h1, h2⟩, h3⟩
    exact ⟨h1, h2, (hshort h1 h2).1 h3⟩
  · rintro ⟨h1, h2, h3⟩
    exact ⟨⟨h1, h2⟩, (hshort h1 h2).2 h3⟩
theorem fits_not {b : Bks} {p : P7} (h : mostOk b.A.length p.fr p.to p.cl = false) : fitsB b [p] = false := by
  unfold fitsB allB
  have : [p].all (mayB b.A.length) = false := by
    rw [Bool.eq_false_iff]
    intro hy
    rw [List.all_eq_true] at hy
    have := mayB_yes.1 (hy p (by simp))
    rw [Bool.eq_false_iff] at h
    exact h (mostOk_yes.2 ⟨this.1, this.2.1, this.2.2.1, this.2.2.2.2⟩)
  rw [this, Bool.false_and, Bool.false_and]
/-- A payment alone fits just if its amount is of 1 to what one may send. -/
theorem fits_most {b : Bks} (g : Good b) (p : P7) : fitsB b [p] = decide (1 ≤ p.am ∧ p.am ≤ mostV b p.fr p.to p.cl) := by
  unfold mostV
  cases h : mostOk b.A.length p.fr p.to p.cl with
  | false =>
    rw [fits_not h, Bool.eq_iff_iff]
    simp
    omega
  | true =>
    obtain ⟨⟨h1, h2⟩, ⟨h3, h4⟩, h5, h6⟩ := mostOk_yes.1 h
    rw [fits_alone g (f := p.fr.toNat) (t := p.to.toNat) (by omega) (by omega) (by omega) (by omega) (by omega) h6, Bool.eq_iff_iff, decide_eq_true_eq, decide_eq_true_eq]
    simp only [if_true]
    omega
theorem mostV_range (b : Bks) (f t cl : Int) : 0 ≤ mostV b f t cl ∧ mostV b f t cl ≤ 1099511627776 := by
  unfold mostV
  split
  · have := (capV_le b f.toNat t.toNat cl (capV b f.toNat t.toNat cl)).1 (Int.le_refl _)
    omega
  · omega
/-- Halves: what fits, and one more that does not. -/
theorem most_found {b : Bks} (g : Good b) {f t cl n : Int} {i s e : Int} (h1 : fitsB b [(i, f, t, n, cl, s, e)] = true) (h2 : fitsB b [(i, f, t, n + 1, cl, s, e)] = false) : mostV b f t cl = n := by
  rw [fits_most g, decide_eq_true_eq] at h1
  rw [fits_most g, decide_eq_false_iff_not] at h2
  have h1 : 1 ≤ n ∧ n ≤ mostV b f t cl := h1
  have h2 : ¬ (1 ≤ n + 1 ∧ n + 1 ≤ mostV b f t cl) := h2
  omega
theorem most_none {b : Bks} (g : Good b) {f t cl : Int} {i s e : Int} (h1 : fitsB b [(i, f, t, 1, cl, s, e)] = false) : mostV b f t cl = 0 := by
  rw [fits_most g, decide_eq_false_iff_not] at h1
  have h1 : ¬ ((1 : Int) ≤ 1 ∧ 1 ≤ mostV b f t cl) := h1
  have := mostV_range b f t cl
  omega

end Go.Proofs.Ytcdahjkngejkeaa
