/-
  knot: what Run leaves, and when all go at once, as plain lists.
-/
import Derived.Test.YtlackjldopeigaaKnotSpec
import Derived.Test.YtlackjldopeigaaPairSpec
import Derived.Test.YtlackjldopeigaaFreeRef
namespace Go.Proofs.Ytlackjldopeigaa
open Go.RowKit
set_option linter.unusedVariables false
set_option linter.unusedSimpArgs false

theorem dropAll_take {l m : List P7} {k : Nat} (h : k < m.length) : dropAll l (m.take (k + 1)) = qDrop (dropAll l (m.take k)) (m.getD k p70).id := by
  unfold dropAll
  rw [take_snoc7 m h, List.foldl_append]
  rfl
theorem dropAll_que {l : List P7} (h : Que l) (m : List P7) : Que (dropAll l m) := by
  induction m generalizing l with
  | nil => exact h
  | cons p m ih => exact ih (h.drop p.id)
theorem dropAll_mem {l m : List P7} {p : P7} (h : p ∈ dropAll l m) : p ∈ l := by
  induction m generalizing l with
  | nil => exact h
  | cons q m ih => exact drop_mem (ih h)
theorem dropAll_fr {l : List P7} (h : FrOk l) (m : List P7) : FrOk (dropAll l m) := fun p hp => h p (dropAll_mem hp)
theorem dropAll_le (l m : List P7) : (dropAll l m).length ≤ l.length := by
  induction m generalizing l with
  | nil => exact Nat.le_refl _
  | cons p m ih => exact Nat.le_trans (ih (l := qDrop l p.id)) (drop_le _ _)
/-- Each of those that are dropped was there. -/
theorem dropAll_len {l m : List P7} (hd : m.Pairwise fun p q => ¬ p.id = q.id) (hs : ∀ p ∈ m, p ∈ l) : (dropAll l m).length + m.length = l.length := by
  induction m generalizing l with
  | nil => rfl
  | cons p m ih =>
    rw [List.pairwise_cons] at hd
    have h1 : qHas l p.id = true := has_iff.2 ⟨p, hs p (by simp), rfl⟩
    have h2 := drop_len h1
    have h3 := at_lt h1
    have h4 := ih (l := qDrop l p.id) hd.2 fun q hq => drop_keeps (hs q (by simp [hq])) fun e => hd.1 q hq e.symm
    show (dropAll (qDrop l p.id) m).length + (m.length + 1) = _
    omega
theorem que_ids {l : List P7} (h : Que l) : l.Pairwise fun p q => ¬ p.id = q.id := h.2.imp fun h => h.2
theorem ready_ids {l : List P7} (h : Que l) (t : Int) : (vReady l t).Pairwise fun p q => ¬ p.id = q.id := by
  rw [vReady_eq]
  exact (que_ids h).sublist List.filter_sublist
theorem ready_mem {l : List P7} {t : Int} {p : P7} (h : p ∈ vReady l t) : p ∈ l := selA_mem h
theorem ready_len (l : List P7) (t : Int) : (vReady l t).length ≤ l.length := sel_len _ _
theorem ready_all {b : Bks} {l : List P7} (t : Int) (h : allB b l = true) : allB b (vReady l t) = true := by
  unfold allB at h ⊢
  rw [Bool.and_eq_true, List.all_eq_true, decide_eq_true_eq] at h ⊢
  exact ⟨fun p hp => h.1 p (ready_mem hp), Nat.le_trans (ready_len l t) h.2⟩
theorem knotM_len (b : Bks) (l : List P7) (t : Int) : (knotM b l t).length ≤ l.length := Nat.le_trans (headsN_len _ _) (ready_len l t)
theorem knotM_mem {b : Bks} {l : List P7} {t : Int} {p : P7} (h : p ∈ knotM b l t) : p ∈ l := ready_mem (headsN_mem h)
theorem knotR_no {b : Bks} {l : List P7} {t : Int} (h : ¬ postE b (knotM b l t) = 0) : knotR b l t = (b, l, []) := by unfold knotR; rw [if_neg h]
theorem knotR_yes {b : Bks} {l : List P7} {t : Int} (h : postE b (knotM b l t) = 0) : knotR b l t = (postR b (knotM b l t), dropAll l (knotM b l t), knotM b l t) := by unfold knotR; rw [if_pos h]
theorem postR_err {b : Bks} {L : List P7} (h : ¬ postE b L = 0) : postR b L = b := by
  unfold postE at h
  unfold postR
  cases h1 : allB b L
  · simp
  · cases h2 : booksB (postB b L)
    · simp
    · rw [h1, h2] at h
      simp at h

/-- What nothing is taken out of. -/
theorem selA_id {K : List P7 → P7 → Bool} {A l : List P7} (h : ∀ x p y, l = x ++ p :: y → K (A ++ x) p = true) : selA K A l = l := by
  induction l generalizing A with
  | nil => rfl
  | cons p l ih =>
    have h0 := h [] p l rfl
    rw [List.append_nil] at h0
    have h1 := ih (A := A ++ [p]) fun x q y e => by
      have := h (p :: x) q y (by rw [e]; rfl)
      rw [List.append_assoc]
      exact this
    unfold selA
    rw [h0, h1]
    rfl
theorem cntF_append (A B : List P7) (f : Int) : cntF (A ++ B) f = cntF A f + cntF B f := by
  unfold cntF
  rw [vOf_eq, vOf_eq, vOf_eq, List.filter_append, List.length_append]
theorem cntF_cons (p : P7) (B : List P7) : cntF (p :: B) p.fr = cntF B p.fr + 1 := by
  unfold cntF
  rw [vOf_eq, vOf_eq, List.filter_cons]
  simp
/-- The first ones, as many as there are, are all. -/
theorem heads_cnts {b : Bks} {R : List P7} (h : ∀ p ∈ R, 0 ≤ p.fr ∧ p.fr < b.A.length) : headsN R (cnts b R) = R := by
  refine selA_id fun x p y e => ?_
  obtain ⟨h0, h1⟩ := h p (by rw [e]; simp)
  obtain ⟨i, hi⟩ : ∃ i : Nat, p.fr = i := ⟨p.fr.toNat, by omega⟩
  have hl : i < b.A.length := by omega
  unfold headK
  rw [intsL_len, cnts_len, List.nil_append, hi, Int.toNat_natCast, intsL_at (by rw [cnts_len]; exact hl), cnts_at b R hl, ← hi]
  have h2 : cntF x p.fr < cntF R p.fr := by
    rw [e, cntF_append, cntF_cons]
    omega
  simp [h0, h1]
  omega
/-- If all fit, one sweep is enough. -/
theorem mostK_all {b : Bks} {R : List P7} (h : ∀ p ∈ R, 0 ≤ p.fr ∧ p.fr < b.A.length) (hs : shortL b R = []) : mostK b R = (cnts b R, 1) := by
  unfold mostK sweepA
  rw [if_pos (by rw [heads_cnts h]; exact hs)]
theorem allB_fr {b : Bks} {R : List P7} (h : allB b R = true) : ∀ p ∈ R, 0 ≤ p.fr ∧ p.fr < b.A.length := fun p hp => by
  unfold allB at h
  rw [Bool.and_eq_true, List.all_eq_true] at h
  exact (mayB_yes.1 (h.1 p hp)).1
theorem allB_am {b : Bks} {R : List P7} (h : allB b R = true) : ∀ p ∈ R, 0 ≤ p.am := fun p hp => by
  unfold allB at h
  rw [Bool.and_eq_true, List.all_eq_true] at h
  have := (mayB_yes.1 (h.1 p hp)).2.2.2.1.1
  omega
theorem fitsB_yes {b : Bks} {R : List P7} (h : fitsB b R = true) : allB b R = true ∧ shortL b R = [] := by
  unfold fitsB at h
  rw [Bool.and_eq_true, decide_eq_true_eq] at h
  exact ⟨h.1, List.length_eq_zero_iff.1 h.2⟩
theorem fitsB_of {b : Bks} {R : List P7} (h : allB b R = true) (k : shortL b R = []) : fitsB b R = true := by
  unfold fitsB
  rw [h, k]
  rfl
theorem knotM_all {b : Bks} {l : List P7} {t : Int} (h : fitsB b (vReady l t) = true) : knotM b l t = vReady l t ∧ (mostK b (vReady l t)).2 = 1 := by
  obtain ⟨h1, h2⟩ := fitsB_yes h
  have e := mostK_all (allB_fr h1) h2
  unfold knotM
  rw [e]
  exact ⟨heads_cnts (allB_fr h1), rfl⟩
/-- What Most finds. -/
theorem mostK_end {b : Bks} {R : List P7} (h0 : ∀ p ∈ R, 0 ≤ p.am) : shortL b (headsN R (mostK b R).1) = [] ∧ (∀ c : List Nat, c.length = b.A.length → (∀ k, c.getD k 0 ≤ (cnts b R).getD k 0) → shortL b (headsN R c) = [] → ∀ k, c.getD k 0 ≤ (mostK b R).1.getD k 0) ∧ (mostK b R).2 ≤ R.length + 1 ∧ (∀ k, (mostK b R).1.getD k 0 ≤ (cnts b R).getD k 0) := by
  have E := sweepA_end (b := b) (R := R) h0 ((cnts b R).sum + 1) (cnts b R) 1 (by omega)
  obtain ⟨e1, e2, e3, e4, e5⟩ := E
  have := cnts_sum b R
  exact ⟨e1, fun c hc => e2 c (by rw [cnts_len]; exact hc), by show (sweepA b R ((cnts b R).sum + 1) (cnts b R) 1).2 ≤ _; omega, e5⟩

end Go.Proofs.Ytlackjldopeigaa
