/-
  row: what waits: rows of payments, as plain lists.
-/
import Derived.Test.YtmfmdicdbjghkaaPaySame
namespace Go.Proofs.Ytmfmdicdbjghkaa
open Go.RowKit
set_option linter.unusedVariables false
set_option linter.unusedSimpArgs false

/-- May a payment stand ahead of another one? -/
def qLe (a b : P7) : Bool := decide (a.fr < b.fr) || (decide (a.fr = b.fr) && decide (a.cl ≤ b.cl))
theorem qLe_iff {a b : P7} : qLe a b = true ↔ a.fr < b.fr ∨ (a.fr = b.fr ∧ a.cl ≤ b.cl) := by simp [qLe]
theorem qLe_not {a b : P7} : qLe a b = false ↔ b.fr < a.fr ∨ (a.fr = b.fr ∧ b.cl < a.cl) := by
  rw [← Bool.not_eq_true, qLe_iff]
  omega
theorem qLe_refl (a : P7) : qLe a a = true := by rw [qLe_iff]; omega
theorem qLe_trans {a b c : P7} (h : qLe a b = true) (k : qLe b c = true) : qLe a c = true := by
  rw [qLe_iff] at *
  omega
theorem qLe_total {a b : P7} (h : qLe a b = false) : qLe b a = true := by
  rw [qLe_not] at h
  rw [qLe_iff]
  omega
/-- How the program compares two. -/
def cmpI (x y : Int) : Int := if x < y then -1 else if y < x then 1 else 0
def orI (x y : Int) : Int := if x = 0 then y else x
def qOrd (a b : P7) : Int := orI (cmpI a.fr b.fr) (cmpI a.cl b.cl)
theorem qOrd_pos (a b : P7) : decide (0 < qOrd a b) = !qLe a b := by
  rw [Bool.eq_iff_iff]
  simp only [decide_eq_true_eq, Bool.not_eq_true', qLe_not]
  unfold qOrd orI cmpI
  constructor
  · intro h; split at h <;> split at h <;> simp_all <;> omega
  · intro h; rcases h with h | h <;> split <;> simp_all <;> omega
theorem qOrd_nn (a b : P7) : decide (0 ≤ qOrd a b) = qLe b a := by
  rw [Bool.eq_iff_iff]
  simp only [decide_eq_true_eq, qLe_iff]
  unfold qOrd orI cmpI
  constructor
  · intro h; split at h <;> split at h <;> simp_all <;> omega
  · intro h; rcases h with h | h <;> split <;> simp_all <;> omega

/-- Is there one of this ID, and where? -/
def qHas (l : List P7) (x : Int) : Bool := l.any fun p => p.id == x
def qAt (l : List P7) (x : Int) : Nat := l.findIdx fun p => p.id == x
def qFind (l : List P7) (x : Int) : Int := if qHas l x then (qAt l x : Nat) else -1

theorem getD_get {l : List P7} {i : Nat} (h : i < l.length) : l.getD i p70 = l[i] := by simp [List.getD_eq_getElem?_getD, h]
theorem getD_in {l : List P7} {i : Nat} (h : i < l.length) : l.getD i p70 ∈ l := by rw [getD_get h]; exact List.getElem_mem h
theorem in_getD {l : List P7} {p : P7} (h : p ∈ l) : ∃ i, i < l.length ∧ l.getD i p70 = p := by
  obtain ⟨i, hi, e⟩ := List.mem_iff_getElem.1 h
  exact ⟨i, hi, by rw [getD_get hi]; exact e⟩
theorem getD_take {l : List P7} {i k : Nat} (h : i < k) : (l.take k).getD i p70 = l.getD i p70 := by
  simp only [List.getD_eq_getElem?_getD]
  rw [List.getElem?_take_of_lt h]
theorem getD_drop {l : List P7} {i k : Nat} : (l.drop k).getD i p70 = l.getD (k + i) p70 := by
  simp [List.getD_eq_getElem?_getD]
theorem getD_left {l m : List P7} {i : Nat} (h : i < l.length) : (l ++ m).getD i p70 = l.getD i p70 := by
  simp [List.getD_eq_getElem?_getD, List.getElem?_append_left h]
theorem getD_right {l m : List P7} {i : Nat} (h : l.length ≤ i) : (l ++ m).getD i p70 = m.getD (i - l.length) p70 := by
  simp [List.getD_eq_getElem?_getD, List.getElem?_append_right h]
theorem ext_getD {l m : List P7} (h : l.length = m.length) (k : ∀ i, i < l.length → l.getD i p70 = m.getD i p70) : l = m := by
  refine List.ext_getElem h fun i h1 h2 => ?_
  have := k i h1
  rwa [getD_get h1, getD_get h2] at this

/-- The first place at which q holds. -/
theorem findIdx_of {q : P7 → Bool} {l : List P7} {k : Nat} (hk : k ≤ l.length) (h1 : ∀ t, t < k → q (l.getD t p70) = false) (h2 : k < l.length → q (l.getD k p70) = true) : l.findIdx q = k := by
  by_cases hlt : k < l.length
  · rw [List.findIdx_eq hlt]
    refine ⟨by rw [← getD_get hlt]; exact h2 hlt, fun j hj => ?_⟩
    rw [← getD_get (by omega)]
    exact h1 j hj
  · have e : k = l.length := by omega
    rw [e]
    rw [List.findIdx_eq_length]
    intro x hx
    obtain ⟨i, hi, rfl⟩ := in_getD hx
    exact h1 i (by omega)
theorem findIdx_lt {q : P7 → Bool} {l : List P7} {t : Nat} (h : t < l.findIdx q) : q (l.getD t p70) = false := by
  have hl := List.findIdx_le_length (p := q) (xs := l)
  rw [getD_get (by omega)]
  have := List.not_of_lt_findIdx h
  simpa using this
theorem findIdx_at {q : P7 → Bool} {l : List P7} (h : l.findIdx q < l.length) : q (l.getD (l.findIdx q) p70) = true := by
  rw [getD_get h]
  exact List.findIdx_getElem (w := h)

theorem has_iff {l : List P7} {x : Int} : qHas l x = true ↔ ∃ p ∈ l, p.id = x := by simp [qHas]
theorem has_not {l : List P7} {x : Int} : qHas l x = false ↔ ∀ p ∈ l, ¬ p.id = x := by simp [qHas]
theorem at_lt {l : List P7} {x : Int} (h : qHas l x = true) : qAt l x < l.length := by
  obtain ⟨p, hp, e⟩ := has_iff.1 h
  exact List.findIdx_lt_length_of_exists ⟨p, hp, by simpa using e⟩
theorem at_id {l : List P7} {x : Int} (h : qHas l x = true) : (l.getD (qAt l x) p70).id = x := by
  have h0 : ((l.getD (qAt l x) p70).id == x) = true := findIdx_at (q := fun p => p.id == x) (l := l) (at_lt h)
  exact beq_iff_eq.1 h0
theorem at_no {l : List P7} {x : Int} {t : Nat} (h : t < qAt l x) : ¬ (l.getD t p70).id = x := by
  have h0 : ((l.getD t p70).id == x) = false := findIdx_lt (q := fun p => p.id == x) h
  exact beq_eq_false_iff_ne.1 h0
theorem find_yes {l : List P7} {x : Int} {k : Nat} (hk : k < l.length) (h1 : ∀ t, t < k → ¬ (l.getD t p70).id = x) (h2 : (l.getD k p70).id = x) : qHas l x = true ∧ qAt l x = k :=
  ⟨has_iff.2 ⟨_, getD_in hk, h2⟩, findIdx_of (by omega) (fun t ht => by simpa using h1 t ht) (fun _ => by simpa using h2)⟩
theorem find_no {l : List P7} {x : Int} (h : ∀ t, t < l.length → ¬ (l.getD t p70).id = x) : qHas l x = false := by
  rw [has_not]
  intro p hp
  obtain ⟨i, hi, rfl⟩ := in_getD hp
  exact h i hi
theorem qFind_yes {l : List P7} {x : Int} (h : qHas l x = true) : qFind l x = (qAt l x : Nat) := by simp [qFind, h]
theorem qFind_no {l : List P7} {x : Int} (h : qHas l x = false) : qFind l x = -1 := by simp [qFind, h]
theorem qFind_nn (l : List P7) (x : Int) : decide (0 ≤ qFind l x) = qHas l x := by
  cases h : qHas l x with
  | true => rw [qFind_yes h]; simp
  | false => rw [qFind_no h]; rfl
theorem qFind_neg (l : List P7) (x : Int) : decide (qFind l x < 0) = !qHas l x := by
  cases h : qHas l x with
  | true => rw [qFind_yes h, decide_eq_false (by omega)]; rfl
  | false => rw [qFind_no h]; rfl
theorem qFind_range (l : List P7) (x : Int) : -1 ≤ qFind l x ∧ qFind l x ≤ l.length := by
  cases h : qHas l x with
  | true => rw [qFind_yes h]; have := at_lt h; omega
  | false => rw [qFind_no h]; omega

/-- Two that may stand so. -/
def QR (a b : P7) : Prop := qLe a b = true ∧ ¬ a.id = b.id
def qOk : List P7 → Bool
  | [] => true
  | x :: l => (l.all fun y => qLe x y && !(x.id == y.id)) && qOk l
theorem qOk_iff {l : List P7} : qOk l = true ↔ l.Pairwise QR := by
  induction l with
  | nil => simp [qOk]
  | cons x l ih =>
    rw [qOk, List.pairwise_cons, Bool.and_eq_true, ih, List.all_eq_true]
    simp [QR]
/-- Is it a row? -/
def qIs (l : List P7) : Bool := decide (l.length ≤ 40) && qOk l
def Que (l : List P7) : Prop := l.length ≤ 40 ∧ l.Pairwise QR
theorem qIs_iff {l : List P7} : qIs l = true ↔ Que l := by simp [qIs, Que, qOk_iff]
theorem qIs_no {l : List P7} (h : ¬ Que l) : qIs l = false := by rw [← Bool.not_eq_true, qIs_iff]; exact h
theorem Que.nil : Que [] := ⟨by simp, List.Pairwise.nil⟩

theorem pw_at {l : List P7} (h : l.Pairwise QR) {i j : Nat} (hij : i < j) (hj : j < l.length) : QR (l.getD i p70) (l.getD j p70) := by
  rw [getD_get (by omega), getD_get hj]
  exact List.pairwise_iff_getElem.1 h i j (by omega) hj hij
theorem pw_of {l : List P7} (h : ∀ i j, i < j → j < l.length → QR (l.getD i p70) (l.getD j p70)) : l.Pairwise QR := by
  refine List.pairwise_iff_getElem.2 fun i j hi hj hij => ?_
  have := h i j hij hj
  rwa [getD_get hi, getD_get hj] at this
theorem pw_le {l : List P7} (h : l.Pairwise QR) {i j : Nat} (hij : i ≤ j) (hj : j < l.length) : qLe (l.getD i p70) (l.getD j p70) = true := by
  rcases Nat.lt_or_ge i j with h1 | h1
  · exact (pw_at h h1 hj).1
  · obtain rfl : i = j := by omega
    exact qLe_refl _
theorem pw_take {l : List P7} (h : l.Pairwise QR) (k : Nat) : (l.take k).Pairwise QR := h.sublist (List.take_sublist k l)

/-- One more of it is in order. -/
theorem pw_step {l : List P7} {k : Nat} (hk : k < l.length) (h : (l.take k).Pairwise QR) (hid : qHas (l.take k) (l.getD k p70).id = false) (hle : 0 < k → qLe (l.getD (k - 1) p70) (l.getD k p70) = true) : (l.take (k + 1)).Pairwise QR := by
  rw [take_snocA l p70 k hk, List.pairwise_append]
  refine ⟨h, by simp, fun a ha b hb => ?_⟩
  simp only [List.mem_singleton] at hb
  subst hb
  refine ⟨?_, has_not.1 hid a ha⟩
  obtain ⟨i, hi, rfl⟩ := in_getD ha
  have hik : i < k := by simp at hi; omega
  have h1 := pw_le h (i := i) (j := k - 1) (by omega) (by simp; omega)
  rw [getD_take hik] at h1 ⊢
  rw [getD_take (by omega)] at h1
  exact qLe_trans h1 (hle (by omega))
theorem pw_no_id {l : List P7} {k : Nat} (hk : k < l.length) (hid : qHas (l.take k) (l.getD k p70).id = true) : ¬ l.Pairwise QR := by
  intro h
  obtain ⟨p, hp, e⟩ := has_iff.1 hid
  obtain ⟨i, hi, rfl⟩ := in_getD hp
  have hik : i < k := by simp at hi; omega
  rw [getD_take hik] at e
  exact (pw_at h hik hk).2 e
theorem pw_no_le {l : List P7} {k : Nat} (h0 : 0 < k) (hk : k < l.length) (hle : qLe (l.getD (k - 1) p70) (l.getD k p70) = false) : ¬ l.Pairwise QR := by
  intro h
  have := (pw_at h (i := k - 1) (j := k) (by omega) hk).1
  rw [hle] at this
  cases this
/-- That the first of its ID stands at k. -/
theorem find_first {l : List P7} {k : Nat} (hk : k < l.length) : (qFind l (l.getD k p70).id != (k : Int)) = qHas (l.take k) (l.getD k p70).id := by
  have hh : qHas l (l.getD k p70).id = true := has_iff.2 ⟨_, getD_in hk, rfl⟩
  rw [qFind_yes hh]
  cases h : qHas (l.take k) (l.getD k p70).id with
  | true =>
    obtain ⟨p, hp, e⟩ := has_iff.1 h
    obtain ⟨i, hi, rfl⟩ := in_getD hp
    have hik : i < k := by simp at hi; omega
    rw [getD_take hik] at e
    have : ¬ qAt l (l.getD k p70).id = k := fun hq => at_no (l := l) (x := (l.getD k p70).id) (t := i) (by omega) e
    simp only [bne_iff_ne, ne_eq]
    omega
  | false =>
    have : qAt l (l.getD k p70).id = k := (find_yes hk (fun t ht hq => has_not.1 h (l.getD t p70) (by rw [← getD_take ht]; exact getD_in (by simp; omega)) hq) rfl).2
    rw [this]
    simp

/-- A payment at a place; a list without one. -/
def qIns (l : List P7) (k : Nat) (p : P7) : List P7 := l.take k ++ ([p] ++ l.drop k)
def qRest (l : List P7) (k : Nat) : List P7 := l.take k ++ l.drop (k + 1)
theorem qIns_len {l : List P7} {k : Nat} {p : P7} (hk : k ≤ l.length) : (qIns l k p).length = l.length + 1 := by simp [qIns]; omega
theorem qRest_len {l : List P7} {k : Nat} (hk : k < l.length) : (qRest l k).length = l.length - 1 := by simp [qRest]; omega
theorem qIns_lo {l : List P7} {k i : Nat} {p : P7} (hk : k ≤ l.length) (hi : i < k) : (qIns l k p).getD i p70 = l.getD i p70 := by
  unfold qIns
  rw [getD_left (by simp; omega), getD_take hi]
theorem qIns_at {l : List P7} {k : Nat} {p : P7} (hk : k ≤ l.length) : (qIns l k p).getD k p70 = p := by
  unfold qIns
  rw [getD_right (by simp; omega), getD_left (by simp; omega)]
  simp [Nat.min_eq_left hk]
theorem qIns_hi {l : List P7} {k i : Nat} {p : P7} (hk : k ≤ l.length) (hi : k < i) : (qIns l k p).getD i p70 = l.getD (i - 1) p70 := by
  unfold qIns
  rw [getD_right (by simp; omega), getD_right (by simp; omega), getD_drop]
  simp only [List.length_take, List.length_singleton, Nat.min_eq_left hk]
  congr 1
  omega
theorem qRest_lo {l : List P7} {k i : Nat} (hk : k < l.length) (hi : i < k) : (qRest l k).getD i p70 = l.getD i p70 := by
  unfold qRest
  rw [getD_left (by simp; omega), getD_take hi]
theorem qRest_hi {l : List P7} {k i : Nat} (hk : k < l.length) (hi : k ≤ i) : (qRest l k).getD i p70 = l.getD (i + 1) p70 := by
  unfold qRest
  rw [getD_right (by simp; omega), getD_drop]
  simp only [List.length_take, Nat.min_eq_left (Nat.le_of_lt hk)]
  congr 1
  omega
theorem qIns_mem {l : List P7} {k : Nat} {p q : P7} : q ∈ qIns l k p ↔ q = p ∨ q ∈ l := by
  unfold qIns
  rw [List.mem_append, List.mem_append, List.mem_singleton]
  have : q ∈ l ↔ q ∈ l.take k ∨ q ∈ l.drop k := by rw [← List.mem_append, List.take_append_drop]
  rw [this]
  constructor
  · rintro (h | h | h)
    · exact .inr (.inl h)
    · exact .inl h
    · exact .inr (.inr h)
  · rintro (h | h | h)
    · exact .inr (.inl h)
    · exact .inl h
    · exact .inr (.inr h)
theorem qRest_mem {l : List P7} {k : Nat} {q : P7} (h : q ∈ qRest l k) : q ∈ l := by
  unfold qRest at h
  rw [List.mem_append] at h
  rcases h with h | h
  · exact List.mem_of_mem_take h
  · exact List.mem_of_mem_drop h
theorem drop_mid {l : List P7} {k : Nat} {p : P7} (hk : k ≤ l.length) : (l.take k ++ ([p] ++ l.drop k)).drop (k + 1) = l.drop k := by
  rw [List.drop_append]
  simp only [List.length_take, Nat.min_eq_left hk]
  rw [List.drop_eq_nil_of_le (by simp; omega), show k + 1 - k = 1 by omega]
  rfl
theorem rest_ins {l : List P7} {k : Nat} {p : P7} (hk : k ≤ l.length) : qRest (qIns l k p) k = l := by
  unfold qRest qIns
  rw [List.take_append_of_le_length (by simp; omega), List.take_take, Nat.min_self, drop_mid hk]
  exact List.take_append_drop k l
theorem pw_rest {l : List P7} (h : l.Pairwise QR) (k : Nat) : (qRest l k).Pairwise QR := by
  refine h.sublist ?_
  unfold qRest
  have : (l.take k ++ l.drop (k + 1)).Sublist (l.take k ++ l.drop k) := List.Sublist.append (List.Sublist.refl _) (by rw [← List.drop_drop]; exact List.drop_sublist 1 _)
  rwa [List.take_append_drop] at this
theorem pw_ins {l : List P7} (h : l.Pairwise QR) {k : Nat} {p : P7} (hid : qHas l p.id = false) (hk : k ≤ l.length) (h1 : ∀ t, t < k → qLe (l.getD t p70) p = true) (h2 : ∀ t, k ≤ t → t < l.length → qLe p (l.getD t p70) = true) : (qIns l k p).Pairwise QR := by
  refine pw_of fun i j hij hj => ?_
  rw [qIns_len hk] at hj
  rcases (by omega : i < k ∨ i = k ∨ k < i) with hi | hi | hi
  · rw [qIns_lo hk hi]
    rcases (by omega : j < k ∨ j = k ∨ k < j) with hj' | hj' | hj'
    · rw [qIns_lo hk hj']
      exact pw_at h hij (by omega)
    · subst hj'
      rw [qIns_at hk]
      exact ⟨h1 i hi, has_not.1 hid _ (getD_in (by omega))⟩
    · rw [qIns_hi hk hj']
      exact pw_at h (by omega) (by omega)
  · subst hi
    rw [qIns_at hk, qIns_hi hk hij]
    exact ⟨h2 _ (by omega) (by omega), fun e => has_not.1 hid _ (getD_in (l := l) (i := j - 1) (by omega)) e.symm⟩
  · rw [qIns_hi hk hi, qIns_hi hk (by omega)]
    exact pw_at h (by omega) (by omega)

/-- Behind all that may stand ahead of it; ahead of all that it may stand ahead of. -/
def qBeh (l : List P7) (p : P7) : Nat := l.findIdx fun x => !qLe x p
def qAhd (l : List P7) (p : P7) : Nat := l.findIdx fun x => qLe p x
theorem qBeh_le (l : List P7) (p : P7) : qBeh l p ≤ l.length := List.findIdx_le_length
theorem qAhd_le (l : List P7) (p : P7) : qAhd l p ≤ l.length := List.findIdx_le_length
theorem beh_lo {l : List P7} {p : P7} {t : Nat} (h : t < qBeh l p) : qLe (l.getD t p70) p = true := by
  have := findIdx_lt (q := fun x => !qLe x p) h
  simpa using this
theorem beh_hi {l : List P7} (hp : l.Pairwise QR) {p : P7} {t : Nat} (h : qBeh l p ≤ t) (ht : t < l.length) : qLe (l.getD t p70) p = false := by
  have hb : qBeh l p < l.length := by omega
  have h0 : (!qLe (l.getD (qBeh l p) p70) p) = true := findIdx_at (q := fun x => !qLe x p) (l := l) hb
  rw [Bool.not_eq_true'] at h0
  cases hq : qLe (l.getD t p70) p with
  | false => rfl
  | true =>
    rw [qLe_trans (pw_le hp h ht) hq] at h0
    cases h0
theorem ahd_lo {l : List P7} {p : P7} {t : Nat} (h : t < qAhd l p) : qLe p (l.getD t p70) = false := findIdx_lt (q := fun x => qLe p x) h
theorem ahd_hi {l : List P7} (hp : l.Pairwise QR) {p : P7} {t : Nat} (h : qAhd l p ≤ t) (ht : t < l.length) : qLe p (l.getD t p70) = true := by
  have hb : qAhd l p < l.length := by omega
  exact qLe_trans (findIdx_at (q := fun x => qLe p x) (l := l) hb) (pw_le hp h ht)
theorem le_no_mono {l : List P7} (hp : l.Pairwise QR) {p : P7} {i j : Nat} (hij : i ≤ j) (hj : j < l.length) (h : qLe (l.getD i p70) p = false) : qLe (l.getD j p70) p = false := by
  cases hq : qLe (l.getD j p70) p with
  | false => rfl
  | true =>
    rw [qLe_trans (pw_le hp hij hj) hq] at h
    cases h
theorem ahd_no_mono {l : List P7} (hp : l.Pairwise QR) {p : P7} {i j : Nat} (hij : i ≤ j) (hj : j < l.length) (h : qLe p (l.getD j p70) = false) : qLe p (l.getD i p70) = false := by
  cases hq : qLe p (l.getD i p70) with
  | false => rfl
  | true =>
    rw [qLe_trans hq (pw_le hp hij hj)] at h
    cases h
theorem pw_beh {l : List P7} (h : l.Pairwise QR) {p : P7} (hid : qHas l p.id = false) : (qIns l (qBeh l p) p).Pairwise QR :=
  pw_ins h hid (qBeh_le l p) (fun t ht => beh_lo ht) (fun t h1 h2 => qLe_total (beh_hi h h1 h2))
theorem pw_ahd {l : List P7} (h : l.Pairwise QR) {p : P7} (hid : qHas l p.id = false) : (qIns l (qAhd l p) p).Pairwise QR :=
  pw_ins h hid (qAhd_le l p) (fun t ht => qLe_total (ahd_lo ht)) (fun t h1 h2 => ahd_hi h h1 h2)

/-- Another class. -/
def setC (p : P7) (c : Int) : P7 := (p.1, p.2.1, p.2.2.1, p.2.2.2.1, c, p.2.2.2.2.2.1, p.2.2.2.2.2.2)

/-- The calls: what they answer. -/
def qPut (l : List P7) (p : P7) : List P7 := if qHas l p.id then l else if 40 ≤ l.length then l else qIns l (qBeh l p) p
def qPutE (l : List P7) (p : P7) : Int := if qHas l p.id then 6 else if 40 ≤ l.length then 3 else 0
def qDrop (l : List P7) (x : Int) : List P7 := if qHas l x then qRest l (qAt l x) else l
def qDropP (l : List P7) (x : Int) : P7 := if qHas l x then l.getD (qAt l x) p70 else p70
def qDropE (l : List P7) (x : Int) : Int := if qHas l x then 0 else 4
def qFront (l : List P7) (x : Int) : List P7 := if qHas l x then qIns (qDrop l x) (qAhd (qDrop l x) (qDropP l x)) (qDropP l x) else l
def qBack (l : List P7) (x : Int) : List P7 := if qHas l x then qIns (qDrop l x) (qBeh (qDrop l x) (qDropP l x)) (qDropP l x) else l
def qClass (l : List P7) (x c : Int) : List P7 := if qHas l x then qIns (qDrop l x) (qBeh (qDrop l x) (setC (qDropP l x) c)) (setC (qDropP l x) c) else l

theorem put_has {l : List P7} {p : P7} (h : qHas l p.id = true) : qPut l p = l ∧ qPutE l p = 6 := by simp [qPut, qPutE, h]
theorem put_full {l : List P7} {p : P7} (h : qHas l p.id = false) (k : 40 ≤ l.length) : qPut l p = l ∧ qPutE l p = 3 := by simp [qPut, qPutE, h, k]
theorem put_ins {l : List P7} {p : P7} (h : qHas l p.id = false) (k : l.length < 40) : qPut l p = qIns l (qBeh l p) p ∧ qPutE l p = 0 := by
  have : ¬ 40 ≤ l.length := by omega
  simp [qPut, qPutE, h, this]
theorem drop_no {l : List P7} {x : Int} (h : qHas l x = false) : qDrop l x = l ∧ qDropP l x = p70 ∧ qDropE l x = 4 := by simp [qDrop, qDropP, qDropE, h]
theorem drop_yes {l : List P7} {x : Int} (h : qHas l x = true) : qDrop l x = qRest l (qAt l x) ∧ qDropP l x = l.getD (qAt l x) p70 ∧ qDropE l x = 0 := by simp [qDrop, qDropP, qDropE, h]
theorem dropP_id {l : List P7} {x : Int} (h : qHas l x = true) : (qDropP l x).id = x := by rw [(drop_yes h).2.1]; exact at_id h
theorem front_no {l : List P7} {x : Int} (h : qHas l x = false) : qFront l x = l := by simp [qFront, h]
theorem back_no {l : List P7} {x : Int} (h : qHas l x = false) : qBack l x = l := by simp [qBack, h]
theorem class_no {l : List P7} {x c : Int} (h : qHas l x = false) : qClass l x c = l := by simp [qClass, h]
theorem front_yes {l : List P7} {x : Int} (h : qHas l x = true) : qFront l x = qIns (qDrop l x) (qAhd (qDrop l x) (qDropP l x)) (qDropP l x) := by simp [qFront, h]
theorem back_yes {l : List P7} {x : Int} (h : qHas l x = true) : qBack l x = qIns (qDrop l x) (qBeh (qDrop l x) (qDropP l x)) (qDropP l x) := by simp [qBack, h]
theorem class_yes {l : List P7} {x c : Int} (h : qHas l x = true) : qClass l x c = qIns (qDrop l x) (qBeh (qDrop l x) (setC (qDropP l x) c)) (setC (qDropP l x) c) := by simp [qClass, h]

theorem drop_len {l : List P7} {x : Int} (h : qHas l x = true) : (qDrop l x).length = l.length - 1 := by rw [(drop_yes h).1]; exact qRest_len (at_lt h)
theorem drop_le (l : List P7) (x : Int) : (qDrop l x).length ≤ l.length := by
  cases h : qHas l x with
  | true => rw [drop_len h]; omega
  | false => rw [(drop_no h).1]; omega
/-- Who is gone is not there. -/
theorem drop_has {l : List P7} (hp : l.Pairwise QR) {x : Int} : qHas (qDrop l x) x = false := by
  cases h : qHas l x with
  | false => rw [(drop_no h).1]; exact h
  | true =>
    rw [(drop_yes h).1]
    have hk := at_lt h
    refine find_no fun t ht => ?_
    rw [qRest_len hk] at ht
    by_cases h1 : t < qAt l x
    · rw [qRest_lo hk h1]
      exact at_no h1
    · rw [qRest_hi hk (by omega)]
      intro e
      exact (pw_at hp (i := qAt l x) (j := t + 1) (by omega) (by omega)).2 (by rw [at_id h, e])
theorem Que.drop {l : List P7} (h : Que l) (x : Int) : Que (qDrop l x) := by
  refine ⟨Nat.le_trans (drop_le l x) h.1, ?_⟩
  unfold qDrop
  split
  · exact pw_rest h.2 _
  · exact h.2
theorem Que.put {l : List P7} (h : Que l) (p : P7) : Que (qPut l p) := by
  cases hh : qHas l p.id with
  | true => rw [(put_has hh).1]; exact h
  | false =>
    by_cases hf : 40 ≤ l.length
    · rw [(put_full hh hf).1]; exact h
    · rw [(put_ins hh (by omega)).1]
      exact ⟨by rw [qIns_len (qBeh_le _ _)]; omega, pw_beh h.2 hh⟩
theorem Que.front {l : List P7} (h : Que l) (x : Int) : Que (qFront l x) := by
  cases hh : qHas l x with
  | false => rw [front_no hh]; exact h
  | true =>
    rw [front_yes hh]
    have hl := at_lt hh
    exact ⟨by rw [qIns_len (qAhd_le _ _), drop_len hh]; have := h.1; omega, pw_ahd (h.drop x).2 (by rw [dropP_id hh]; exact drop_has h.2)⟩
theorem Que.back {l : List P7} (h : Que l) (x : Int) : Que (qBack l x) := by
  cases hh : qHas l x with
  | false => rw [back_no hh]; exact h
  | true =>
    rw [back_yes hh]
    have hl := at_lt hh
    exact ⟨by rw [qIns_len (qBeh_le _ _), drop_len hh]; have := h.1; omega, pw_beh (h.drop x).2 (by rw [dropP_id hh]; exact drop_has h.2)⟩
theorem Que.class {l : List P7} (h : Que l) (x c : Int) : Que (qClass l x c) := by
  cases hh : qHas l x with
  | false => rw [class_no hh]; exact h
  | true =>
    rw [class_yes hh]
    have hl := at_lt hh
    exact ⟨by rw [qIns_len (qBeh_le _ _), drop_len hh]; have := h.1; omega, pw_beh (h.drop x).2 (by show qHas _ (qDropP l x).id = false; rw [dropP_id hh]; exact drop_has h.2)⟩
theorem front_len {l : List P7} (x : Int) : (qFront l x).length = l.length := by
  cases hh : qHas l x with
  | false => rw [front_no hh]
  | true => rw [front_yes hh, qIns_len (qAhd_le _ _), drop_len hh]; have := at_lt hh; omega
theorem back_len {l : List P7} (x : Int) : (qBack l x).length = l.length := by
  cases hh : qHas l x with
  | false => rw [back_no hh]
  | true => rw [back_yes hh, qIns_len (qBeh_le _ _), drop_len hh]; have := at_lt hh; omega
theorem class_len {l : List P7} (x c : Int) : (qClass l x c).length = l.length := by
  cases hh : qHas l x with
  | false => rw [class_no hh]
  | true => rw [class_yes hh, qIns_len (qBeh_le _ _), drop_len hh]; have := at_lt hh; omega
theorem put_len (l : List P7) (p : P7) : (qPut l p).length ≤ l.length + 1 := by
  unfold qPut
  split
  · omega
  · split
    · omega
    · rw [qIns_len (qBeh_le _ _)]; omega

end Go.Proofs.Ytmfmdicdbjghkaa
