/-
  ids: plain mathematics: numbers that rise, what is there, where one goes.
-/
import Derived.Test.YtadnohkgbggoiaaSl
namespace Go.Proofs.Ytadnohkgbggoiaa
open Go.RowKit
set_option linter.unusedVariables false
set_option linter.unusedSimpArgs false

/-- The number ahead of the i-th one; 0 ahead of the first. -/
def prv (l : List Int) (i : Nat) : Int := if i = 0 then 0 else l.getD (i - 1) 0
/-- Each is above the one ahead of it, the first above 0. -/
def Up (l : List Int) : Prop := ∀ i, i < l.length → prv l i < l.getD i 0
def upB (l : List Int) : Bool := decide (∀ i, i < l.length → prv l i < l.getD i 0)
def isB (l : List Int) : Bool := decide (l.length ≤ 200) && upB l
def hasB (l : List Int) (x : Int) : Bool := l.contains x
/-- How many, ahead of all others, are less. -/
def cutN (l : List Int) (x : Int) : Nat := (l.takeWhile fun y => decide (y < x)).length
def ins (l : List Int) (x : Int) : List Int := l.take (cutN l x) ++ (x :: l.drop (cutN l x))
def addL (l : List Int) (x : Int) : List Int := if hasB l x = true then l else if 200 ≤ l.length then l else ins l x
def addE (l : List Int) (x : Int) : Int := if hasB l x = true then 6 else if 200 ≤ l.length then 3 else 0

theorem upB_yes {l : List Int} (h : Up l) : upB l = true := by
  unfold upB
  exact decide_eq_true h
theorem upB_no {l : List Int} (h : ¬ Up l) : upB l = false := by
  unfold upB
  exact decide_eq_false h
theorem upB_up {l : List Int} (h : upB l = true) : Up l := by
  unfold upB at h
  have k := of_decide_eq_true h
  exact k
theorem isB_long {l : List Int} (h : 200 < l.length) : isB l = false := by
  unfold isB
  rw [decide_eq_false (by omega), Bool.false_and]
theorem isB_short {l : List Int} (h : l.length ≤ 200) : isB l = upB l := by
  unfold isB
  rw [decide_eq_true h, Bool.true_and]
theorem isB_up {l : List Int} (h : isB l = true) : Up l ∧ l.length ≤ 200 := by
  unfold isB at h
  rw [Bool.and_eq_true] at h
  exact ⟨upB_up h.2, of_decide_eq_true h.1⟩
theorem isB_yes {l : List Int} (h : Up l) (h2 : l.length ≤ 200) : isB l = true := by rw [isB_short h2, upB_yes h]

theorem prv_zero (l : List Int) : prv l 0 = 0 := rfl
theorem prv_succ (l : List Int) (i : Nat) : prv l (i + 1) = l.getD i 0 := by simp [prv]

theorem up_pos {l : List Int} (h : Up l) : ∀ i, i < l.length → 0 < l.getD i 0
  | 0, hi => by have := h 0 hi; rw [prv_zero] at this; exact this
  | i + 1, hi => by
    have := h (i + 1) hi
    rw [prv_succ] at this
    have := up_pos h i (by omega)
    omega
theorem up_lt {l : List Int} (h : Up l) (i : Nat) : ∀ k, i + 1 + k < l.length → l.getD i 0 < l.getD (i + 1 + k) 0
  | 0, hk => by have := h (i + 1) hk; rw [prv_succ] at this; exact this
  | k + 1, hk => by
    have h1 := up_lt h i k (by omega)
    have h2 := h (i + 1 + k + 1) (by omega)
    rw [prv_succ] at h2
    have e : i + 1 + (k + 1) = i + 1 + k + 1 := by omega
    rw [e]
    omega
theorem up_mono {l : List Int} (h : Up l) {i j : Nat} (hij : i < j) (hj : j < l.length) : l.getD i 0 < l.getD j 0 := by
  obtain ⟨k, rfl⟩ : ∃ k, j = i + 1 + k := ⟨j - (i + 1), by omega⟩
  exact up_lt h i k hj
theorem up_le {l : List Int} (h : Up l) {i j : Nat} (hij : i ≤ j) (hj : j < l.length) : l.getD i 0 ≤ l.getD j 0 := by
  rcases Nat.eq_or_lt_of_le hij with rfl | h1
  · exact Int.le_refl _
  · have := up_mono h h1 hj; omega
theorem up_of {l : List Int} (h : ∀ i, i < l.length → 1 ≤ l.getD i 0 ∧ (0 < i → l.getD (i - 1) 0 < l.getD i 0)) : Up l := by
  intro i hi
  have := h i hi
  cases i with
  | zero => rw [prv_zero]; omega
  | succ i => rw [prv_succ]; have := this.2 (by omega); simpa using this
theorem not_up_low {l : List Int} {i : Nat} (hi : i < l.length) (h : l.getD i 0 < 1) : ¬ Up l := fun hu => by have := up_pos hu i hi; omega
theorem not_up_fall {l : List Int} {i : Nat} (hi : i < l.length) (h0 : 0 < i) (h : l.getD i 0 ≤ l.getD (i - 1) 0) : ¬ Up l := fun hu => by have := up_mono hu (i := i - 1) (j := i) (by omega) hi; omega

theorem has_yes {l : List Int} {x : Int} {i : Nat} (hi : i < l.length) (h : l.getD i 0 = x) : hasB l x = true := by
  unfold hasB
  rw [List.contains_iff_mem, ← h]
  exact getD_mem hi
theorem has_no {l : List Int} {x : Int} (h : ∀ i, i < l.length → l.getD i 0 ≠ x) : hasB l x = false := by
  unfold hasB
  rw [Bool.eq_false_iff]
  intro hc
  rw [List.contains_iff_mem, List.mem_iff_getElem] at hc
  obtain ⟨i, hi, e⟩ := hc
  exact h i hi (by simp [List.getD_eq_getElem?_getD, hi, e])
theorem has_mem {l : List Int} {x : Int} : hasB l x = true ↔ x ∈ l := by
  unfold hasB
  rw [List.contains_iff_mem]

theorem cut_of : ∀ (l : List Int) (x : Int) (k : Nat), k ≤ l.length → (∀ i, i < k → l.getD i 0 < x) → (k < l.length → x ≤ l.getD k 0) → cutN l x = k
  | [], x, k, hk, _, _ => by simp at hk; simp [cutN, hk]
  | y :: l, x, 0, _, _, h2 => by
    have := h2 (by simp)
    simp at this
    have hy : ¬ y < x := by omega
    simp [cutN, List.takeWhile_cons, hy]
  | y :: l, x, k + 1, hk, h1, h2 => by
    have h0 := h1 0 (by omega)
    simp at h0
    have := cut_of l x k (by simpa using hk) (fun i hi => by simpa using h1 (i + 1) (by omega)) (fun hl => by simpa using h2 (by simpa using hl))
    unfold cutN at this ⊢
    rw [List.takeWhile_cons, if_pos (by simpa using h0), List.length_cons, this]
theorem cut_le : ∀ (l : List Int) (x : Int), cutN l x ≤ l.length := fun l x => (List.takeWhile_prefix _).length_le
theorem cut_low : ∀ (l : List Int) (x : Int) (i : Nat), i < cutN l x → l.getD i 0 < x
  | [], x, i, h => by simp [cutN] at h
  | y :: l, x, i, h => by
    unfold cutN at h
    rw [List.takeWhile_cons] at h
    split at h
    · rename_i hy
      cases i with
      | zero => simpa using hy
      | succ i =>
        simp at h
        have := cut_low l x i h
        simpa using this
    · simp at h
theorem cut_high : ∀ (l : List Int) (x : Int), cutN l x < l.length → x ≤ l.getD (cutN l x) 0
  | [], x, h => by simp at h
  | y :: l, x, h => by
    unfold cutN at h ⊢
    rw [List.takeWhile_cons] at h ⊢
    split
    · rename_i hy
      rw [if_pos hy] at h
      simp at h
      have := cut_high l x h
      unfold cutN at this
      simpa using this
    · rename_i hy
      simp at hy
      simpa using hy
theorem cut_high' {l : List Int} (hu : Up l) (x : Int) {i : Nat} (h : cutN l x ≤ i) (hi : i < l.length) : x ≤ l.getD i 0 := by
  have h1 := cut_high l x (by omega)
  have h2 := up_le hu h hi
  omega

theorem ins_len (l : List Int) (x : Int) : (ins l x).length = l.length + 1 := by
  have := cut_le l x
  simp [ins]
  omega
theorem ins_mem (l : List Int) (x y : Int) : y ∈ ins l x ↔ y = x ∨ y ∈ l := by
  unfold ins
  rw [List.mem_append, List.mem_cons]
  constructor
  · rintro (h | h | h)
    · exact .inr (List.mem_of_mem_take h)
    · exact .inl h
    · exact .inr (List.mem_of_mem_drop h)
  · rintro (h | h)
    · exact .inr (.inl h)
    · rw [← List.take_append_drop (cutN l x) l, List.mem_append] at h
      rcases h with h | h
      · exact .inl h
      · exact .inr (.inr h)
theorem ins_lo {l : List Int} {x : Int} {i : Nat} (h : i < cutN l x) : (ins l x).getD i 0 = l.getD i 0 := by
  have hc := cut_le l x
  unfold ins
  simp only [List.getD_eq_getElem?_getD]
  rw [List.getElem?_append_left (by simp; omega), List.getElem?_take_of_lt h]
theorem ins_at (l : List Int) (x : Int) : (ins l x).getD (cutN l x) 0 = x := by
  have hc := cut_le l x
  have hl : (l.take (cutN l x)).length = cutN l x := by rw [List.length_take]; omega
  unfold ins
  simp only [List.getD_eq_getElem?_getD]
  rw [List.getElem?_append_right (by omega), hl, Nat.sub_self]
  rfl
theorem ins_hi {l : List Int} {x : Int} {i : Nat} (h : cutN l x ≤ i) : (ins l x).getD (i + 1) 0 = l.getD i 0 := by
  have hc := cut_le l x
  have hl : (l.take (cutN l x)).length = cutN l x := by rw [List.length_take]; omega
  unfold ins
  simp only [List.getD_eq_getElem?_getD]
  rw [List.getElem?_append_right (by omega), hl]
  have e : i + 1 - cutN l x = (i - cutN l x) + 1 := by omega
  rw [e, List.getElem?_cons_succ, List.getElem?_drop]
  have e2 : cutN l x + (i - cutN l x) = i := by omega
  rw [e2]
theorem ins_up {l : List Int} {x : Int} (hu : Up l) (hx : 0 < x) (hn : hasB l x = false) : Up (ins l x) := by
  have hc := cut_le l x
  intro i hi
  rw [ins_len] at hi
  rcases Nat.lt_trichotomy i (cutN l x) with h | h | h
  · rw [ins_lo h]
    cases i with
    | zero => rw [prv_zero]; exact up_pos hu 0 (by omega)
    | succ i => rw [prv_succ, ins_lo (by omega)]; exact up_mono hu (by omega) (by omega)
  · subst h
    rw [ins_at]
    obtain ⟨k, hk⟩ : ∃ k, cutN l x = k := ⟨_, rfl⟩
    rw [hk]
    cases k with
    | zero => rw [prv_zero]; exact hx
    | succ i => rw [prv_succ, ins_lo (by omega)]; exact cut_low l x i (by omega)
  · obtain ⟨j, rfl⟩ : ∃ j, i = j + 1 := ⟨i - 1, by omega⟩
    rw [prv_succ, ins_hi (by omega)]
    by_cases hj : j = cutN l x
    · subst hj
      rw [ins_at]
      have := cut_high l x (by omega)
      by_cases he : l.getD (cutN l x) 0 = x
      · rw [has_yes (by omega) he] at hn; cases hn
      · omega
    · obtain ⟨m, rfl⟩ : ∃ m, j = m + 1 := ⟨j - 1, by omega⟩
      rw [ins_hi (by omega)]
      exact up_mono hu (by omega) (by omega)

theorem add_has {l : List Int} {x : Int} (h : hasB l x = true) : addL l x = l ∧ addE l x = 6 := by simp [addL, addE, h]
theorem add_full {l : List Int} {x : Int} (h : hasB l x = false) (h2 : 200 ≤ l.length) : addL l x = l ∧ addE l x = 3 := by simp [addL, addE, h, h2]
theorem add_ins {l : List Int} {x : Int} (h : hasB l x = false) (h2 : l.length < 200) : addL l x = ins l x ∧ addE l x = 0 := by
  have : ¬ 200 ≤ l.length := by omega
  simp [addL, addE, h, this]

theorem search_end {l : List Int} {x : Int} {k : Nat} (hu : Up l) (hk : k ≤ l.length) (h1 : ∀ i, i < k → l.getD i 0 < x) (h2 : ∀ i, k ≤ i → i < l.length → x ≤ l.getD i 0) : cutN l x = k ∧ hasB l x = (decide (k < l.length) && (l.getD k 0 == x)) := by
  refine ⟨cut_of l x k hk h1 (fun h => h2 k (Nat.le_refl _) h), ?_⟩
  by_cases hl : k < l.length
  · by_cases he : l.getD k 0 = x
    · rw [has_yes hl he, he]; simp [hl]
    · rw [has_no (fun i hi => ?_)]
      · simp only [hl, decide_true, Bool.true_and]
        exact (beq_eq_false_iff_ne.2 he).symm
      · intro e
        by_cases hik : i < k
        · have := h1 i hik; omega
        · have := up_le hu (i := k) (j := i) (by omega) hi
          have := h2 k (Nat.le_refl _) hl
          omega
  · rw [has_no (fun i hi e => by have := h1 i (by omega); omega)]
    simp [hl]

end Go.Proofs.Ytadnohkgbggoiaa
