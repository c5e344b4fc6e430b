/-
  What may go, and the first ones of each, as the laws look at them (plain lists).
-/
import Derived.Test.YtmfmdicdbjghkaaViewRefMay
import Derived.Test.YtmfmdicdbjghkaaRowedFacts
namespace Go.Proofs.Ytmfmdicdbjghkaa
open Go.RowKit
set_option linter.unusedVariables false
set_option linter.unusedSimpArgs false

theorem RowedP.fr_ok {k : Nat} {L : List P7} (h : ∀ p ∈ L, RowedP k p) : FrOk L := fun p hp => i64_wf (by have := (h p hp).2.1; omega) (by have := (h p hp).2.1; omega)
theorem selA_sublist (K : List P7 → P7 → Bool) (A l : List P7) : (selA K A l).Sublist l := by
  induction l generalizing A with
  | nil => exact List.Sublist.refl _
  | cons x l ih =>
    simp only [selA]
    split
    · exact (ih _).cons_cons x
    · exact (ih _).cons x
theorem sel_sublist (K : List P7 → P7 → Bool) (L : List P7) : (sel K L).Sublist L := selA_sublist K [] L
theorem vOf_append (A B : List P7) (f : Int) : vOf (A ++ B) f = vOf A f ++ vOf B f := by rw [vOf_eq, vOf_eq, vOf_eq, List.filter_append]
theorem vOf_one (x : P7) (f : Int) : vOf [x] f = if x.fr = f then [x] else [] := by rw [vOf_eq]; by_cases h : x.fr = f <;> simp [h]
theorem vOf_snoc (A : List P7) (x : P7) (f : Int) : vOf (A ++ [x]) f = vOf A f ++ if x.fr = f then [x] else [] := by rw [vOf_append, vOf_one]

theorem vOf_may_to (R : List P7) (f : Int) : ∀ k, k ≤ R.length → vOf (sel (mayK R) (R.take k)) f = if othF R f = 0 then vOf (R.take k) f else (vOf (R.take k) f).take 1
  | 0, _ => by simp [sel, selA, vOf]
  | k + 1, hk => by
    have ih := vOf_may_to R f k (by omega)
    rw [sel_take _ _ (by omega : k < R.length), take_snoc7 R (by omega), vOf_snoc, vOf_append, ih]
    obtain ⟨x, hx⟩ : ∃ x, R.getD k p70 = x := ⟨_, rfl⟩
    rw [hx]
    by_cases hf : x.fr = f
    · rw [if_pos hf]
      by_cases ho : othF R f = 0
      · have hK : mayK R (R.take k) x = true := by unfold mayK; rw [hf, decide_eq_true ho, Bool.or_true]
        rw [hK, if_pos rfl, if_pos ho, if_pos ho, vOf_one, if_pos hf]
      · rw [if_neg ho, if_neg ho]
        cases hv : vOf (R.take k) f with
        | nil =>
          have hK : mayK R (R.take k) x = true := by unfold mayK cntF; rw [hf, hv]; rfl
          rw [hK, if_pos rfl, vOf_one, if_pos hf]
          rfl
        | cons y m =>
          have hK : mayK R (R.take k) x = false := by unfold mayK cntF; rw [hf, hv, decide_eq_false ho]; rfl
          rw [hK]
          simp [vOf_eq]
    · rw [if_neg hf, List.append_nil]
      have : vOf (if mayK R (R.take k) x = true then [x] else []) f = [] := by
        split
        · rw [vOf_one, if_neg hf]
        · rfl
      rw [this, List.append_nil]
theorem vOf_may (R : List P7) (f : Int) : vOf (sel (mayK R) R) f = if othF R f = 0 then vOf R f else (vOf R f).take 1 := by
  have := vOf_may_to R f R.length (Nat.le_refl _)
  rwa [List.take_length] at this

theorem oth_head {R : List P7} {f : Int} {x : P7} {m : List P7} (hq : R.Pairwise QR) (hc : ∀ p ∈ R, p.cl ≤ 3) (hv : vOf R f = x :: m) : x.cl = 3 ↔ othF R f = 0 := by
  have hp := plain_iff R f
  rw [hv] at hp
  have hs : (x :: m).Sublist R := by rw [← hv]; exact sel_sublist _ R
  have hpw := hq.sublist hs
  have hfr : ∀ p ∈ x :: m, p.fr = f := fun p h => by
    rw [← hv, vOf_eq] at h
    simpa using (List.mem_filter.1 h).2
  constructor
  · intro h3
    have : (x :: m).all (fun p => p.cl == 3) = true := by
      rw [List.all_eq_true]
      intro p h
      have h1 := hc p (hs.subset h)
      rcases List.mem_cons.1 h with rfl | h2
      · simpa using h3
      · have h4 := qLe_iff.1 ((List.pairwise_cons.1 hpw).1 p h2).1
        have h5 := hfr x (by simp)
        have h6 := hfr p h
        have : p.cl = 3 := by omega
        simpa using this
    rw [this] at hp
    exact of_decide_eq_true hp.symm
  · intro ho
    rw [decide_eq_true ho, List.all_eq_true] at hp
    simpa using hp x (by simp)

/-- What one sends of all that is ready, and of what may go. -/
theorem may_parts {R : List P7} (hq : R.Pairwise QR) (hc : ∀ p ∈ R, p.cl ≤ 3) (f : Int) :
    (vOf R f = [] ∧ vOf (sel (mayK R) R) f = []) ∨
    ∃ x A B, vOf R f = x :: A ∧ vOf (sel (mayK R) R) f = x :: B ∧ (x.cl = 3 → B.length = A.length) ∧ (¬ x.cl = 3 → B.length = 0) := by
  have hm := vOf_may R f
  cases hv : vOf R f with
  | nil => rw [hv] at hm; left; exact ⟨rfl, by rw [hm]; split <;> rfl⟩
  | cons x A =>
    right
    have ho := oth_head hq hc hv
    rw [hv] at hm
    by_cases h : othF R f = 0
    · rw [if_pos h] at hm
      exact ⟨x, A, A, rfl, hm, fun _ => rfl, fun h3 => absurd (ho.2 h) h3⟩
    · rw [if_neg h] at hm
      exact ⟨x, A, [], rfl, hm, fun h3 => absurd (ho.1 h3) h, fun _ => rfl⟩

/-- They stand as in the row. -/
theorem rising_of {r m : List P7} (hq : r.Pairwise QR) (hs : m.Sublist r) {i : Nat} (hi : i < m.length) (h0 : 0 < i) : ¬ qFind r (m.getD i p70).id ≤ qFind r (m.getD (i - 1) p70).id := by
  have hr : r.Pairwise fun a b => qFind r a.id < qFind r b.id := by
    rw [List.pairwise_iff_getElem]
    intro j k hj hk hjk
    have h1 := at_of hq hj
    have h2 := at_of hq hk
    rw [getD_get hj] at h1
    rw [getD_get hk] at h2
    rw [qFind_yes h1.1, qFind_yes h2.1, h1.2, h2.2]
    omega
  have hm := hr.sublist hs
  have := List.pairwise_iff_getElem.1 hm (i - 1) i (by omega) hi (by omega)
  rw [getD_get hi, getD_get (by omega : i - 1 < m.length)]
  omega
theorem may_ready {r : List P7} {t : Int} {p : P7} (h : p ∈ vMay r t) : readyB p.st p.ti t = true := by
  have h := selA_mem (K := mayK (vReady r t)) h
  rw [vReady_eq] at h
  exact (List.mem_filter.1 h).2

end Go.Proofs.Ytmfmdicdbjghkaa
