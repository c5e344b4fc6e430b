/-
  pair: two at once, as plain lists.
-/
import Derived.Test.YtlackjldopeigaaFreeSpec
namespace Go.Proofs.Ytlackjldopeigaa
open Go.RowKit
set_option linter.unusedVariables false
set_option linter.unusedSimpArgs false

/-- Is the other one back, and its sender the greater? -/
def backB (p q : P7) : Bool := decide (q.fr = p.to) && (decide (q.to = p.fr) && decide (p.fr < q.fr))
def isPair (b : Bks) (p q : P7) : Bool := backB p q && goesB b [p, q]
def firstQ (b : Bks) (m : List P7) (p : P7) : Option P7 := m.find? (isPair b p)
def pairL (b : Bks) (m : List P7) : List P7 → Option (P7 × P7)
  | [] => none
  | p :: l => match firstQ b m p with
    | some q => some (p, q)
    | none => pairL b m l
/-- The next two that go. -/
def nextQ (b : Bks) (l : List P7) (t : Int) : Option (P7 × P7) := pairL b (vMay l t) (vMay l t)

theorem pairL_some {b : Bks} {m : List P7} : ∀ {l : List P7} {p q : P7}, pairL b m l = some (p, q) → p ∈ l ∧ q ∈ m ∧ isPair b p q = true := by
  intro l
  induction l with
  | nil => intro p q h; cases h
  | cons x l ih =>
    intro p q h
    unfold pairL at h
    cases e : firstQ b m x with
    | none =>
      rw [e] at h
      obtain ⟨h1, h2, h3⟩ := ih h
      exact ⟨List.mem_cons_of_mem _ h1, h2, h3⟩
    | some y =>
      rw [e] at h
      injection h with h
      injection h with h1 h2
      subst h1 h2
      exact ⟨List.mem_cons_self .., List.mem_of_find?_eq_some e, List.find?_some (p := isPair b x) e⟩
/-- The first with one; none. -/
theorem pairL_here {b : Bks} {m : List P7} {q : P7} : ∀ {l : List P7} {k : Nat}, k < l.length → (∀ j, j < k → firstQ b m (l.getD j p70) = none) → firstQ b m (l.getD k p70) = some q → pairL b m l = some (l.getD k p70, q) := by
  intro l
  induction l with
  | nil => intro k hk; simp at hk
  | cons x l ih =>
    intro k hk hn hy
    cases k with
    | zero =>
      have hy : firstQ b m x = some q := hy
      show pairL b m (x :: l) = some (x, q)
      simp only [pairL, hy]
    | succ k =>
      have h0 : firstQ b m x = none := hn 0 (by omega)
      have := ih (k := k) (by simpa using hk) (fun j hj => hn (j + 1) (by omega)) hy
      show pairL b m (x :: l) = some (l.getD k p70, q)
      simp only [pairL, h0]
      exact this
theorem pairL_none {b : Bks} {m : List P7} : ∀ {l : List P7}, (∀ j, j < l.length → firstQ b m (l.getD j p70) = none) → pairL b m l = none := by
  intro l
  induction l with
  | nil => intro _; rfl
  | cons x l ih =>
    intro h
    have h0 : firstQ b m x = none := h 0 (by simp)
    simp only [pairL, h0]
    exact ih fun j hj => h (j + 1) (by simpa using hj)

theorem backB_yes {p q : P7} : backB p q = true ↔ q.fr = p.to ∧ q.to = p.fr ∧ p.fr < q.fr := by simp [backB]
theorem nextQ_some {b : Bks} {l : List P7} {t : Int} {p q : P7} (h : nextQ b l t = some (p, q)) : p ∈ l ∧ q ∈ l ∧ (q.fr = p.to ∧ q.to = p.fr ∧ p.fr < q.fr) ∧ fitsB b [p, q] = true ∧ postE b [p, q] = 0 ∧ goesB b [p, q] = true := by
  obtain ⟨h1, h2, h3⟩ := pairL_some h
  unfold isPair at h3
  rw [Bool.and_eq_true] at h3
  have hg := h3.2
  unfold goesB at hg
  rw [Bool.and_eq_true, decide_eq_true_eq] at hg
  exact ⟨may_mem h1, may_mem h2, backB_yes.1 h3.1, hg.1, hg.2, h3.2⟩
theorem nextQ_nil (b : Bks) (t : Int) : nextQ b [] t = none := rfl
/-- Whoever is there stays, where another one is dropped. -/
theorem drop_keeps {l : List P7} {x : Int} {p : P7} (h : p ∈ l) (hx : ¬ p.id = x) : p ∈ qDrop l x := by
  unfold qDrop
  split
  · rename_i hh
    obtain ⟨i, hi, e⟩ := in_getD h
    have hk := at_lt hh
    have hne : ¬ i = qAt l x := fun e2 => hx (by rw [← e, e2]; exact at_id hh)
    by_cases hlt : i < qAt l x
    · rw [← e, ← qRest_lo hk hlt]
      exact getD_in (by rw [qRest_len hk]; omega)
    · have h2 := qRest_hi (l := l) hk (i := i - 1) (by omega)
      rw [show i - 1 + 1 = i from by omega, e] at h2
      rw [← h2]
      exact getD_in (by rw [qRest_len hk]; omega)
  · exact h
theorem drop_mem {l : List P7} {x : Int} {p : P7} (h : p ∈ qDrop l x) : p ∈ l := by
  unfold qDrop at h
  split at h
  · exact qRest_mem h
  · exact h
/-- Two of a row that are of one ID are one. -/
theorem que_id {l : List P7} (h : l.Pairwise QR) {p q : P7} (hp : p ∈ l) (hq : q ∈ l) (e : p.id = q.id) : p = q := by
  obtain ⟨i, hi, rfl⟩ := in_getD hp
  obtain ⟨j, hj, rfl⟩ := in_getD hq
  rcases Nat.lt_trichotomy i j with h1 | h1 | h1
  · exact absurd e (pw_at h h1 hj).2
  · rw [h1]
  · exact absurd e.symm (pw_at h h1 hi).2
def drop2 (l : List P7) (p q : P7) : List P7 := qDrop (qDrop l p.id) q.id
theorem nextQ_two {b : Bks} {l : List P7} {t : Int} {p q : P7} (hq : Que l) (h : nextQ b l t = some (p, q)) : qHas l p.id = true ∧ qHas (qDrop l p.id) q.id = true ∧ (qDrop l p.id).length + 1 = l.length ∧ (drop2 l p q).length + 2 = l.length := by
  obtain ⟨h1, h2, ⟨_, _, h3⟩, _⟩ := nextQ_some h
  have hne : ¬ q.id = p.id := fun e => by have := que_id hq.2 h2 h1 e; rw [this] at h3; omega
  have k1 : qHas l p.id = true := has_iff.2 ⟨p, h1, rfl⟩
  have k2 : qHas (qDrop l p.id) q.id = true := has_iff.2 ⟨q, drop_keeps h2 hne, rfl⟩
  have l1 := drop_len k1
  have l2 := drop_len k2
  have m1 := at_lt k1
  have m2 := at_lt k2
  unfold drop2
  exact ⟨k1, k2, by omega, by omega⟩

/-- What was settled, two by two; where it leads. -/
def stepsQ : Bks → List P7 → Int → List (P7 × P7) → Prop
  | b, l, t, [] => nextQ b l t = none
  | b, l, t, (p, q) :: d => nextQ b l t = some (p, q) ∧ stepsQ (postR b [p, q]) (drop2 l p q) t d
def endQ : Bks → List (P7 × P7) → Bks
  | b, [] => b
  | b, (p, q) :: d => endQ (postR b [p, q]) d
def endQL : List P7 → List (P7 × P7) → List P7
  | l, [] => l
  | l, (p, q) :: d => endQL (drop2 l p q) d
def flatQ : List (P7 × P7) → List P7
  | [] => []
  | (p, q) :: d => p :: q :: flatQ d
/-- R is what comes of it, where so much was settled before. -/
def LeadsQ (b : Bks) (l : List P7) (t : Int) (d0 : List P7) (R : Bks × List P7 × List P7) : Prop := ∃ d, stepsQ b l t d ∧ R = (endQ b d, endQL l d, d0 ++ flatQ d)
theorem LeadsQ.step {b : Bks} {l : List P7} {t : Int} {d0 : List P7} {R : Bks × List P7 × List P7} {p q : P7} (h : LeadsQ b l t d0 R) (hn : nextQ b l t = some (p, q)) : LeadsQ (postR b [p, q]) (drop2 l p q) t (d0 ++ [p, q]) R := by
  obtain ⟨d, hs, e⟩ := h
  cases d with
  | nil =>
    have hs : nextQ b l t = none := hs
    rw [hn] at hs
    cases hs
  | cons x d =>
    obtain ⟨p', q'⟩ := x
    obtain ⟨h1, h2⟩ := hs
    rw [hn] at h1
    injection h1 with h1
    injection h1 with h1 h3
    subst h1 h3
    exact ⟨d, h2, by rw [e]; simp [endQ, endQL, flatQ]⟩
theorem LeadsQ.stop {b : Bks} {l : List P7} {t : Int} {d0 : List P7} {R : Bks × List P7 × List P7} (h : LeadsQ b l t d0 R) (hn : nextQ b l t = none) : (b, l, d0) = R := by
  obtain ⟨d, hs, e⟩ := h
  cases d with
  | nil => rw [e]; simp [endQ, endQL, flatQ]
  | cons x d =>
    obtain ⟨p', q'⟩ := x
    obtain ⟨h1, h2⟩ := hs
    rw [hn] at h1
    cases h1
/-- All of it. -/
def runQA : Nat → Bks → List P7 → Int → List P7 → Bks × List P7 × List P7
  | 0, b, l, _, d => (b, l, d)
  | k + 1, b, l, t, d => match nextQ b l t with
    | none => (b, l, d)
    | some (p, q) => runQA k (postR b [p, q]) (drop2 l p q) t (d ++ [p, q])
def runQ (b : Bks) (l : List P7) (t : Int) : Bks × List P7 × List P7 := runQA l.length b l t []
theorem runQA_leads : ∀ (k : Nat) (b : Bks) (l : List P7) (t : Int) (d : List P7), Que l → l.length ≤ k → LeadsQ b l t d (runQA k b l t d) := by
  intro k
  induction k with
  | zero =>
    intro b l t d hq hl
    have : l = [] := List.length_eq_zero_iff.1 (by omega)
    subst this
    exact ⟨[], nextQ_nil b t, by simp [runQA, endQ, endQL, flatQ]⟩
  | succ k ih =>
    intro b l t d hq hl
    cases h : nextQ b l t with
    | none => exact ⟨[], h, by simp [runQA, h, endQ, endQL, flatQ]⟩
    | some x =>
      obtain ⟨p, q⟩ := x
      have h2 := nextQ_two hq h
      obtain ⟨e, s, r⟩ := ih (postR b [p, q]) (drop2 l p q) t (d ++ [p, q]) ((hq.drop _).drop _) (by omega)
      refine ⟨(p, q) :: e, ⟨h, s⟩, ?_⟩
      simp only [runQA, h, r, endQ, endQL, flatQ, List.append_assoc, List.cons_append, List.nil_append]
theorem runQ_leads (b : Bks) {l : List P7} (t : Int) (hq : Que l) : LeadsQ b l t [] (runQ b l t) := runQA_leads _ b l t [] hq (Nat.le_refl _)
theorem stepsQ_end : ∀ (d : List (P7 × P7)) (b : Bks) (l : List P7) (t : Int), stepsQ b l t d → nextQ (endQ b d) (endQL l d) t = none := by
  intro d
  induction d with
  | nil => intro b l t h; exact h
  | cons x d ih => obtain ⟨p, q⟩ := x; intro b l t h; exact ih _ _ t h.2
/-- Who is gone stays away. -/
theorem endQL_mem : ∀ (d : List (P7 × P7)) {l : List P7} {x : P7}, x ∈ endQL l d → x ∈ l := by
  intro d
  induction d with
  | nil => intro l x h; exact h
  | cons y d ih => obtain ⟨p, q⟩ := y; intro l x h; exact drop_mem (drop_mem (ih h))
theorem gone_stays {d : List (P7 × P7)} {l : List P7} {x : Int} (h : qHas l x = false) : qHas (endQL l d) x = false := has_not.2 fun p hp => has_not.1 h p (endQL_mem d hp)
theorem drop2_gone {l : List P7} (h : Que l) (p q : P7) : qHas (drop2 l p q) p.id = false ∧ qHas (drop2 l p q) q.id = false :=
  ⟨has_not.2 fun x hx => has_not.1 (drop_has h.2 (x := p.id)) x (drop_mem hx), drop_has (h.drop p.id).2⟩
theorem flatQ_len (d : List (P7 × P7)) : (flatQ d).length = 2 * d.length := by
  induction d with
  | nil => rfl
  | cons x d ih => obtain ⟨p, q⟩ := x; simp only [flatQ, List.length_cons, ih]; omega
theorem stepsQ_len : ∀ (d : List (P7 × P7)) (b : Bks) (l : List P7) (t : Int), Que l → stepsQ b l t d → (endQL l d).length + 2 * d.length = l.length := by
  intro d
  induction d with
  | nil => intro b l t _ h; rfl
  | cons x d ih =>
    obtain ⟨p, q⟩ := x
    intro b l t hq h
    have h2 : (drop2 l p q).length + 2 = l.length := (nextQ_two hq h.1).2.2.2
    have h3 : (endQL (drop2 l p q) d).length + 2 * d.length = (drop2 l p q).length := ih (postR b [p, q]) (drop2 l p q) t ((hq.drop _).drop _) h.2
    show (endQL (drop2 l p q) d).length + 2 * (d.length + 1) = l.length
    omega

end Go.Proofs.Ytlackjldopeigaa
