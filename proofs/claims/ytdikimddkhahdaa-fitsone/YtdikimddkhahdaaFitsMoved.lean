/-
  fits: what payments move, as 42 numbers: how they come of the payments.
-/
import Derived.Test.YtdikimddkhahdaaFitsMv
import Derived.Test.YtdikimddkhahdaaFitsSpec
namespace Go.Proofs.Ytdikimddkhahdaa
open Go.RowKit
set_option linter.unusedVariables false
set_option linter.unusedSimpArgs false

def mvL (L : List P7) : List Int := (List.range 42).map fun j => if j < 36 then sentS L ((j / 6 : Nat) : Int) ((j % 6 : Nat) : Int) else spentS L ((j - 36 : Nat) : Int)
theorem mvL_len (L : List P7) : (mvL L).length = 42 := by simp [mvL]
theorem mvL_at (L : List P7) (j : Nat) (hj : j < 42) : (mvL L).getD j 0 = if j < 36 then sentS L ((j / 6 : Nat) : Int) ((j % 6 : Nat) : Int) else spentS L ((j - 36 : Nat) : Int) := by
  simp only [mvL, List.getD_eq_getElem?_getD, List.getElem?_map, List.getElem?_range hj, Option.map_some, Option.getD_some]
theorem mvL_sent (L : List P7) (i k : Nat) (hi : i < 6) (hk : k < 6) : (mvL L).getD (i * 6 + k) 0 = sentS L i k := by
  rw [mvL_at L _ (by omega), if_pos (by omega), show (i * 6 + k) / 6 = i by omega, show (i * 6 + k) % 6 = k by omega]
theorem mvL_spent (L : List P7) (i : Nat) (hi : i < 6) : (mvL L).getD (36 + i) 0 = spentS L i := by
  rw [mvL_at L _ (by omega), if_neg (by omega), show 36 + i - 36 = i by omega]
theorem mvL_out (L : List P7) (j : Nat) (hj : ¬ j < 42) : (mvL L).getD j 0 = 0 := by
  rw [List.getD_eq_getElem?_getD, List.getElem?_eq_none (by rw [mvL_len]; omega)]; rfl
theorem mvA_nil : mvA (mvL []) = #[.int .i64 0, .int .i64 0, .int .i64 0, .int .i64 0, .int .i64 0, .int .i64 0, .int .i64 0, .int .i64 0, .int .i64 0, .int .i64 0, .int .i64 0, .int .i64 0, .int .i64 0, .int .i64 0, .int .i64 0, .int .i64 0, .int .i64 0, .int .i64 0, .int .i64 0, .int .i64 0, .int .i64 0, .int .i64 0, .int .i64 0, .int .i64 0, .int .i64 0, .int .i64 0, .int .i64 0, .int .i64 0, .int .i64 0, .int .i64 0, .int .i64 0, .int .i64 0, .int .i64 0, .int .i64 0, .int .i64 0, .int .i64 0, .int .i64 0, .int .i64 0, .int .i64 0, .int .i64 0, .int .i64 0, .int .i64 0] := by rfl
/-- Payments whose numbers may be looked up. -/
structure MvPays (L : List P7) : Prop where
  fr : ∀ p ∈ L, 0 ≤ p.fr ∧ p.fr < 6
  to : ∀ p ∈ L, 0 ≤ p.to ∧ p.to < 6
  am : ∀ p ∈ L, 1 ≤ p.am ∧ p.am ≤ 1099511627776
theorem sumS_bnd (f : P7 → Int) (L : List P7) (h : ∀ p ∈ L, 0 ≤ f p ∧ f p ≤ 1099511627776) (hl : L.length ≤ 64) : 0 ≤ sumS f L ∧ sumS f L ≤ 70368744177664 := by
  have := sumS_bound f L 1099511627776 h
  have h2 : (L.length : Int) ≤ 64 := by omega
  have h3 : (L.length : Int) * 1099511627776 ≤ 64 * 1099511627776 := by omega
  omega
theorem MvPays.sent {L : List P7} (h : MvPays L) (hl : L.length ≤ 64) (i k : Int) : 0 ≤ sentS L i k ∧ sentS L i k ≤ 70368744177664 := sumS_bnd _ L (fun p hp => sentG_bound (by have := h.am p hp; omega)) hl
theorem MvPays.spent {L : List P7} (h : MvPays L) (hl : L.length ≤ 64) (i : Int) : 0 ≤ spentS L i ∧ spentS L i ≤ 70368744177664 := sumS_bnd _ L (fun p hp => spentG_bound (by have := h.am p hp; omega)) hl
theorem MvPays.plain {L : List P7} (h : MvPays L) (hl : L.length ≤ 64) (i : Int) : 0 ≤ plainS L i ∧ plainS L i ≤ 70368744177664 := sumS_bnd _ L (fun p hp => plainG_bound (by have := h.am p hp; omega)) hl
theorem MvPays.ok {L : List P7} (h : MvPays L) (hl : L.length ≤ 64) : MvOk (mvL L) := by
  refine ⟨mvL_len L, fun j => ?_⟩
  by_cases hj : j < 42
  · rw [mvL_at L j hj]
    split
    · exact h.sent hl _ _
    · exact h.spent hl _
  · rw [mvL_out L j hj]; omega
theorem MvPays.take {L : List P7} (h : MvPays L) (k : Nat) : MvPays (L.take k) := ⟨fun p hp => h.fr p (List.mem_of_mem_take hp), fun p hp => h.to p (List.mem_of_mem_take hp), fun p hp => h.am p (List.mem_of_mem_take hp)⟩

theorem mvA_set (z : List Int) (j : Nat) (v : Int) : (mvA z).setIfInBounds j (.int .i64 v) = mvA (z.set j v) := by
  unfold mvA
  rw [List.setIfInBounds_toArray, List.map_set]
theorem set_at (z : List Int) (j i : Nat) (v : Int) (h : j < z.length) : (z.set j v).getD i 0 = if i = j then v else z.getD i 0 := by
  simp only [List.getD_eq_getElem?_getD, List.getElem?_set]
  by_cases e : j = i
  · subst e; simp [h]
  · rw [if_neg e, if_neg (fun x => e x.symm)]
theorem mv_ext {y z : List Int} (hy : y.length = 42) (hz : z.length = 42) (h : ∀ j, j < 42 → y.getD j 0 = z.getD j 0) : y = z := by
  refine List.ext_getElem (by omega) fun i h1 h2 => ?_
  have := h i (by omega)
  simpa [h1, h2] using this
/-- One payment more. -/
theorem mvL_plain {L : List P7} {p : P7} {f o : Nat} (hf : p.fr = f) (ho : p.to = o) (h6 : f < 6) (o6 : o < 6) (hc : p.cl = 3) : mvL (L ++ [p]) = (mvL L).set (f * 6 + o) (sentS L f o + p.am) := by
  refine mv_ext (mvL_len _) (by rw [List.length_set]; exact mvL_len _) fun j hj => ?_
  rw [set_at _ _ _ _ (by rw [mvL_len]; omega), mvL_at _ j hj, mvL_at L j hj]
  by_cases h36 : j < 36
  · rw [if_pos h36, if_pos h36]
    unfold sentS
    rw [sumS_snoc]
    unfold sentG
    rw [hf, ho]
    by_cases e : j = f * 6 + o
    · subst e
      rw [show (f * 6 + o) / 6 = f by omega, show (f * 6 + o) % 6 = o by omega]
      simp
    · rw [if_neg e]
      have : ¬ ((f : Int) = ((j / 6 : Nat) : Int) ∧ (o : Int) = ((j % 6 : Nat) : Int)) := by omega
      simp only [this, if_false, Int.add_zero]
  · rw [if_neg h36, if_neg h36, if_neg (by omega)]
    unfold spentS
    rw [sumS_snoc]
    simp [spentG, hc]
theorem mvL_spend {L : List P7} {p : P7} {f o : Nat} (hf : p.fr = f) (ho : p.to = o) (h6 : f < 6) (o6 : o < 6) (hc : ¬ p.cl = 3) : mvL (L ++ [p]) = ((mvL L).set (f * 6 + o) (sentS L f o + p.am)).set (36 + f) (spentS L f + p.am) := by
  refine mv_ext (mvL_len _) (by rw [List.length_set, List.length_set]; exact mvL_len _) fun j hj => ?_
  rw [set_at _ _ _ _ (by rw [List.length_set, mvL_len]; omega), set_at _ _ _ _ (by rw [mvL_len]; omega), mvL_at _ j hj, mvL_at L j hj]
  by_cases h36 : j < 36
  · rw [if_pos h36, if_pos h36, if_neg (by omega)]
    unfold sentS
    rw [sumS_snoc]
    unfold sentG
    rw [hf, ho]
    by_cases e : j = f * 6 + o
    · subst e
      rw [show (f * 6 + o) / 6 = f by omega, show (f * 6 + o) % 6 = o by omega]
      simp
    · rw [if_neg e]
      have : ¬ ((f : Int) = ((j / 6 : Nat) : Int) ∧ (o : Int) = ((j % 6 : Nat) : Int)) := by omega
      simp only [this, if_false, Int.add_zero]
  · rw [if_neg h36, if_neg h36]
    unfold spentS
    rw [sumS_snoc]
    unfold spentG
    rw [hf]
    by_cases e : j = 36 + f
    · subst e
      rw [show 36 + f - 36 = f by omega]
      simp [hc]
    · rw [if_neg e, if_neg (show ¬ j = f * 6 + o by omega)]
      have : ¬ ((f : Int) = ((j - 36 : Nat) : Int) ∧ ¬ p.cl = 3) := by omega
      simp only [this, if_false, Int.add_zero]

end Go.Proofs.Ytdikimddkhahdaa
