/-
  A row of numbers begun at another place: its sum is the same.
-/
import Derived.Test.YthkmjlbmefpaiaaRefSum
namespace Go.Proofs.Ythkmjlbmefpaiaa
open Go.RowKit
set_option linter.unusedVariables false
namespace Walk

/-- The first k numbers of the row that begins at place t of zs, and goes on from its head. -/
def rot (zs : List Int) (t : Nat) : Nat → List Int
  | 0 => []
  | k + 1 => rot zs t k ++ [zs.getD ((k + t) % zs.length) 0]

theorem rot_length (zs : List Int) (t k : Nat) : (rot zs t k).length = k := by
  induction k with
  | zero => rfl
  | succ k ih => simp [rot, ih]

theorem rot_wf (zs : List Int) (t k : Nat) (h0 : 0 < zs.length) (hwf : ∀ n ∈ zs, -9223372036854775808 ≤ n ∧ n ≤ 9223372036854775807) : ∀ n ∈ rot zs t k, -9223372036854775808 ≤ n ∧ n ≤ 9223372036854775807 := by
  induction k with
  | zero => intro n hn; simp [rot] at hn
  | succ k ih =>
    intro n hn
    simp only [rot, List.mem_append, List.mem_singleton] at hn
    rcases hn with hn | hn
    · exact ih n hn
    · have hm := Nat.mod_lt (k + t) h0
      apply hwf
      rw [hn]
      simp [List.getD_eq_getElem?_getD, hm]

theorem rot_get (zs : List Int) (t k i : Nat) (h : i < k) : (rot zs t k).getD i 0 = zs.getD ((i + t) % zs.length) 0 := by
  induction k with
  | zero => omega
  | succ k ih =>
    by_cases e : i < k
    · rw [← ih e]
      simp only [rot, List.getD_eq_getElem?_getD]
      rw [List.getElem?_append_left (by rw [rot_length]; exact e)]
    · obtain rfl : i = k := by omega
      simp only [rot, List.getD_eq_getElem?_getD]
      rw [List.getElem?_append_right (by rw [rot_length]; exact Nat.le_refl _), rot_length]
      simp

theorem mod_shift (i s n : Nat) (hi : i < n) (hs : s < n) : (i + s) % n = if i + s < n then i + s else i + s - n := by
  split
  · rename_i h; exact Nat.mod_eq_of_lt h
  · rename_i h; rw [Nat.mod_eq_sub_mod (by omega), Nat.mod_eq_of_lt (by omega)]

/-- In any order the sum is the same. -/
theorem tot_rot (zs : List Int) (t : Nat) (h0 : 0 < zs.length) : tot (rot zs t zs.length) = tot zs := by
  have hs := Nat.mod_lt t h0
  have e : rot zs t zs.length = zs.drop (t % zs.length) ++ zs.take (t % zs.length) := by
    apply List.ext_getElem
    · rw [rot_length]; simp; omega
    · intro i h1 h2
      rw [rot_length] at h1
      have g := rot_get zs t zs.length i h1
      have hm : (i + t) % zs.length = (i + t % zs.length) % zs.length := by simp [Nat.add_mod]
      rw [hm, mod_shift i (t % zs.length) zs.length h1 hs] at g
      have g1 : (rot zs t zs.length).getD i 0 = (rot zs t zs.length)[i]'(by rw [rot_length]; exact h1) := by simp [List.getD_eq_getElem?_getD, rot_length, h1]
      rw [g1] at g
      rw [g, List.getElem_append]
      split <;> rename_i hc
      · rw [dif_pos (by simp; omega)]
        simp [List.getD_eq_getElem?_getD, hc, Nat.add_comm]
      · rw [dif_neg (by simp; omega)]
        have : i + t % zs.length - zs.length < zs.length := by omega
        simp [List.getD_eq_getElem?_getD, this]
        congr 1
        omega
  rw [e, tot_append]
  have e2 := tot_append (zs.take (t % zs.length)) (zs.drop (t % zs.length))
  rw [List.take_append_drop] at e2
  omega

/-- What the call owns is a slice with just these numbers. -/
theorem has_own {w : World} {base : Nat} {v : Value} {ys : List Int} (h : w.ownsRow base 2 1 v ys.length (ys.map (Value.int .i64))) (hl : ys.length ≤ 140737488355328)
    (hwf : ∀ n ∈ ys, -9223372036854775808 ≤ n ∧ n ≤ 9223372036854775807) : ∃ a cap, v = .slice a ys.length cap ∧ Has w a ys.length ys := by
  have hc := h.2
  rcases hc with ⟨rfl, h0⟩ | ⟨g, cap, cur, rfl, _, _, _, _, _, _⟩
  · have : ys = [] := List.length_eq_zero_iff.mp h0
    subst this
    exact ⟨none, 0, rfl, rfl, hl, hwf, .inl rfl⟩
  · refine ⟨some ⟨g, 0, none⟩, cap, rfl, rfl, hl, hwf, .inr ⟨g, 0, rfl, ?_⟩⟩
    intro i hi
    rw [Nat.zero_add, h.cellAt i (by omega)]
    simp [hi]

end Walk
end Go.Proofs.Ythkmjlbmefpaiaa
