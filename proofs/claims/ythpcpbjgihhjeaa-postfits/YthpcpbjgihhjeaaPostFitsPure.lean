/-
  PostFits: what fits leaves nobody that sent too low, nor beyond a limit: of each payment.
-/
import Derived.Test.YthpcpbjgihhjeaaPostPure
namespace Go.Proofs.Ythpcpbjgihhjeaa
open Go.RowKit
set_option linter.unusedVariables false
set_option linter.unusedSimpArgs false

theorem sum_pos (g : P7 → Int) {L : List P7} (h : ∀ q ∈ L, 0 ≤ g q) {p : P7} (hp : p ∈ L) : g p ≤ sumS g L := by
  induction L with
  | nil => simp at hp
  | cons x l ih =>
    have h1 := h x (by simp)
    have h2 := sumS_nonneg g l fun q hq => h q (by simp [hq])
    simp only [sumS]
    rcases List.mem_cons.1 hp with rfl | hp
    · omega
    · have := ih (fun q hq => h q (by simp [hq])) hp
      omega
theorem netTo_post (b : Bks) (L : List P7) {i : Nat} (hi : i < b.A.length) : ∀ m, m ≤ b.A.length → netTo (postB b L).P i m = netTo b.P i m + dTo L i m := by
  intro m
  induction m with
  | zero => intro _; rfl
  | succ m ih =>
    intro hm
    simp only [netTo, dTo]
    rw [ih (by omega), postB_at b L hi (by omega)]
    omega
theorem fits_each {b : Bks} {L : List P7} (h : fitsB b L = true) (h3 : b.A.length = 3) (ha : ∀ q ∈ L, 1 ≤ q.am) {p : P7} (hp : p ∈ L) {f t : Nat} (hf : p.fr = f) (ht : p.to = t) (hf3 : f < 3) (ht3 : t < 3) :
    0 ≤ ((postB b L).A.getD f a30).1 + ((postB b L).A.getD f a30).2.1 ∧ (p.cl = 3 → ((postB b L).A.getD f a30).2.2 ≤ ((postB b L).A.getD f a30).1 + ((postB b L).A.getD f a30).2.1) ∧
      (at2 b.B f t = -1 ∨ at2 (postB b L).P f t ≤ at2 b.B f t) ∧ (b.M.getD f 0 = -1 ∨ netTo (postB b L).P f 3 ≤ b.M.getD f 0) := by
  have hfl : f < b.A.length := by omega
  have hpl : 0 ≤ plainS L f := sumS_nonneg _ L fun q hq => by unfold plainG; split; have := ha q hq; omega; omega
  have hsp : 0 ≤ spentS L f := sumS_nonneg _ L fun q hq => by unfold spentG; split; have := ha q hq; omega; omega
  have h1 := ha p hp
  have hc : p.cl = 3 → 0 < plainS L f := fun hc => by
    have := sum_pos (plainG f) (L := L) (fun q hq => by unfold plainG; split; have := ha q hq; omega; omega) hp
    have e : plainG f p = p.am := by unfold plainG; rw [if_pos ⟨hf, hc⟩]
    unfold plainS
    omega
  have hn : ¬ plainS L f + spentS L f = 0 := by
    by_cases hc3 : p.cl = 3
    · have := hc hc3; omega
    · have := sum_pos (spentG f) (L := L) (fun q hq => by unfold spentG; split; have := ha q hq; omega; omega) hp
      have e : spentG f p = p.am := by unfold spentG; rw [if_pos ⟨hf, hc3⟩]
      have : p.am ≤ spentS L f := by unfold spentS; omega
      omega
  have hs : 0 < sentS L f t := by
    have := sum_pos (sentG f t) (L := L) (fun q hq => by unfold sentG; split; have := ha q hq; omega; omega) hp
    have e : sentG f t p = p.am := by unfold sentG; rw [if_pos ⟨hf, ht⟩]
    unfold sentS
    omega
  obtain ⟨q1, q2, q3, q4⟩ := fits_floor h hfl hn
  rw [postB_acct b L hfl, postB_at b L hfl (by omega), netTo_post b L hfl 3 (by omega)]
  rw [h3] at q4
  exact ⟨q1, fun hc3 => q2 (hc hc3), q3 t (by omega) hs, q4⟩

end Go.Proofs.Ythpcpbjgihhjeaa
