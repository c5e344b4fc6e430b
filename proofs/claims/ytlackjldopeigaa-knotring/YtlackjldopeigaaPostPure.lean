/-
  What is posted of a few payments stays books; in two posts, or one.
-/
import Derived.Test.YtlackjldopeigaaPostAll
import Derived.Test.YtlackjldopeigaaSomeGood
import Derived.Test.YtlackjldopeigaaFitsRowed
namespace Go.Proofs.Ytlackjldopeigaa
open Go.RowKit
set_option linter.unusedVariables false
set_option linter.unusedSimpArgs false

theorem post_good {b : Bks} (g : Good b) {L : List P7} (hs : ∀ i : Int, 0 ≤ spentS L i) (hb : ∀ i, i < b.A.length → -4611686018427387904 < (postA b L b.A.length i).1 ∧ (postA b L b.A.length i).1 < 4611686018427387904) (hp : ∀ i k, i < b.A.length → k < b.A.length → posB (at2 b.P i k + netS L i k) = true) : Good (postB b L) := by
  have hl := postB_len b L
  refine ⟨by rw [hl]; exact g.n1, by rw [hl]; exact g.n6, fun i hi => ?_, by rw [hl]; exact g.bil, fun i hi => by rw [hl] at hi ⊢; exact g.bils i hi, fun i k hi hk => by rw [hl] at hi hk; exact g.lim i k hi hk, by rw [hl]; exact g.mul, fun i hi => by rw [hl] at hi; exact g.muls i hi, ?_, fun i hi => ?_, fun i k hi hk => ?_, fun i k hi hk => ?_⟩
  · rw [hl] at hi
    unfold acctAt
    rw [postB_acct b L hi, acctB_yes]
    have h1 := hb i hi
    have h2 := g.acc i hi
    unfold acctAt at h2
    rw [acctB_yes] at h2
    have h3 := keptV_range (r := (b.A.getD i a30).2.2) (by omega) (hs i)
    refine ⟨h1.1, h1.2, ?_, ?_, ?_, ?_⟩
    · exact h2.2.2.1
    · exact h2.2.2.2.1
    · exact h3.1
    · exact Int.le_trans h3.2 h2.2.2.2.2.2
  · rw [hl]; simp [postB]
  · rw [hl] at hi ⊢
    rw [postB_row b L hi]
    simp [postP]
  · rw [hl] at hi hk
    rw [postB_at b L hi hk]
    exact hp i k hi hk
  · rw [hl] at hi hk
    rw [postB_at b L hi hk, postB_at b L hk hi, g.turn i k hi hk, netS_turn L i k]
    omega
/-- Sums of small amounts. -/
theorem sent_small {L : List P7} {M N : Int} (h : ∀ p ∈ L, 0 ≤ p.am ∧ p.am ≤ M) (hN : L.length * M ≤ N) (i k : Int) : 0 ≤ sentS L i k ∧ sentS L i k ≤ N := by
  have := sumS_bound (sentG i k) L M fun p hp => sentG_bound (h p hp)
  unfold sentS
  omega
theorem net_small {L : List P7} {M N : Int} (h : ∀ p ∈ L, 0 ≤ p.am ∧ p.am ≤ M) (hN : L.length * M ≤ N) (i k : Int) : -N ≤ netS L i k ∧ netS L i k ≤ N := by
  have h1 := sent_small h hN i k
  have h2 := sent_small h hN k i
  unfold netS
  omega
theorem spent_nonneg {L : List P7} (h : ∀ p ∈ L, 0 ≤ p.am) (i : Int) : 0 ≤ spentS L i := sumS_nonneg _ L fun p hp => by unfold spentG; split; exact h p hp; exact Int.le_refl _
theorem dTo_three {L : List P7} {N : Int} (h : ∀ i k : Int, -N ≤ netS L i k ∧ netS L i k ≤ N) (i : Int) : -(3 * N) ≤ dTo L i 3 ∧ dTo L i 3 ≤ 3 * N := by
  have h0 := h i 0
  have h1 := h i 1
  have h2 := h i 2
  have e : dTo L i 3 = netS L i 0 + netS L i 1 + netS L i 2 := by
    show dTo L i 0 + netS L i (0 : Nat) + netS L i (1 : Nat) + netS L i (2 : Nat) = _
    have z : dTo L i 0 = 0 := rfl
    rw [z, Int.zero_add]
    rfl
  omega
/-- Of three accounts that have little. -/
theorem post_three {b : Bks} (g : Good b) (h3 : b.A.length = 3) (hA : ∀ i, i < 3 → -1000000 ≤ (b.A.getD i a30).1 ∧ (b.A.getD i a30).1 ≤ 1000000) (hP : ∀ i k, i < 3 → k < 3 → -1000000 ≤ at2 b.P i k ∧ at2 b.P i k ≤ 1000000) {L : List P7} {M : Int} (h : ∀ p ∈ L, 0 ≤ p.am ∧ p.am ≤ M) (hN : L.length * M ≤ 1000000) : Good (postB b L) := by
  refine post_good g (spent_nonneg fun p hp => (h p hp).1) (fun i hi => ?_) fun i k hi hk => ?_
  · rw [h3] at hi ⊢
    have h1 := dTo_three (fun i k => net_small h hN i k) (i : Int)
    have h2 := hA i hi
    unfold postA
    simp only []
    omega
  · rw [h3] at hi hk
    have h1 := net_small h hN (i : Int) (k : Int)
    have h2 := hP i k hi hk
    exact posB_mk (by omega) (by omega)
theorem someK_small (zs : List Int) (z1 z2 z4 : Bool) : (∀ i, i < 3 → -1000000 ≤ ((someK zs z1 z2 z4).A.getD i a30).1 ∧ ((someK zs z1 z2 z4).A.getD i a30).1 ≤ 1000000) ∧ ∀ i k, i < 3 → k < 3 → -1000000 ≤ at2 (someK zs z1 z2 z4).P i k ∧ at2 (someK zs z1 z2 z4).P i k ≤ 1000000 := by
  have h0 := balV_rng zs 0
  have h1 := balV_rng zs 1
  have h2 := balV_rng zs 2
  refine ⟨fun i hi => ?_, fun i k hi hk => ?_⟩
  · rcases (by omega : i = 0 ∨ i = 1 ∨ i = 2) with rfl | rfl | rfl
    · show -1000000 ≤ balV zs 0 ∧ balV zs 0 ≤ 1000000; omega
    · show -1000000 ≤ balV zs 1 ∧ balV zs 1 ≤ 1000000; omega
    · show -1000000 ≤ balV zs 2 ∧ balV zs 2 ≤ 1000000; omega
  · rcases (by omega : i = 0 ∨ i = 1 ∨ i = 2) with rfl | rfl | rfl <;> rcases (by omega : k = 0 ∨ k = 1 ∨ k = 2) with rfl | rfl | rfl <;> cases z4 <;> (change -1000000 ≤ at2 (someP _) _ _ ∧ at2 (someP _) _ _ ≤ 1000000; decide +kernel)
theorem rowed_am {L : List P7} {k : Nat} (h : ∀ p ∈ L, RowedP k p) : ∀ p ∈ L, 0 ≤ p.am ∧ p.am ≤ 32 := fun p hp => by
  have := (h p hp).2.2.2.2.1
  omega
/-- A row that rowed makes is posted, on books that some makes. -/
theorem post_rowed (zs : List Int) (z1 z2 z4 : Bool) {L : List P7} {k : Nat} (h : ∀ p ∈ L, RowedP k p) (hl : L.length ≤ 40) :
    Good (postB (someK zs z1 z2 z4) L) ∧ postE (someK zs z1 z2 z4) L = 0 ∧ postR (someK zs z1 z2 z4) L = postB (someK zs z1 z2 z4) L := by
  have g := post_three (good_some zs z1 z2 z4) rfl (someK_small zs z1 z2 z4).1 (someK_small zs z1 z2 z4).2 (rowed_am h) (by omega)
  have a : allB (someK zs z1 z2 z4) L = true := rowed_all rfl (by omega) h
  refine ⟨g, ?_, ?_⟩
  · unfold postE; rw [if_pos a, if_pos (booksB_yes.2 g)]
  · unfold postR; rw [a, booksB_yes.2 g]; rfl
/-- Posted in two, the first ones behind. -/
theorem post_two (zs : List Int) (z1 z2 z4 : Bool) {L : List P7} {k : Nat} (h : ∀ p ∈ L, RowedP k p) (hl : L.length ≤ 40) (j : Nat) :
    Good (postB (someK zs z1 z2 z4) (L.drop j)) ∧ postE (someK zs z1 z2 z4) (L.drop j) = 0 ∧ postR (someK zs z1 z2 z4) (L.drop j) = postB (someK zs z1 z2 z4) (L.drop j) ∧
      postE (postB (someK zs z1 z2 z4) (L.drop j)) (L.take j) = 0 ∧ postR (postB (someK zs z1 z2 z4) (L.drop j)) (L.take j) = postB (someK zs z1 z2 z4) L := by
  have hd : ∀ p ∈ L.drop j, RowedP k p := fun p hp => h p (List.mem_of_mem_drop hp)
  have ht : ∀ p ∈ L.take j, RowedP k p := fun p hp => h p (List.mem_of_mem_take hp)
  have d := post_rowed zs z1 z2 z4 hd (by rw [List.length_drop]; omega)
  have w := post_rowed zs z1 z2 z4 h hl
  have e : postB (postB (someK zs z1 z2 z4) (L.drop j)) (L.take j) = postB (someK zs z1 z2 z4) L := by
    rw [postB_twice _ _ _ (spent_nonneg fun p hp => (rowed_am hd p hp).1) (spent_nonneg fun p hp => (rowed_am ht p hp).1)]
    refine postB_perm _ ?_
    exact (List.perm_append_comm).trans (by rw [List.take_append_drop])
  have a : allB (postB (someK zs z1 z2 z4) (L.drop j)) (L.take j) = true := rowed_all (by rw [postB_len]; rfl) (by rw [List.length_take]; omega) ht
  refine ⟨d.1, d.2.1, d.2.2, ?_, ?_⟩
  · unfold postE; rw [if_pos a, e, if_pos (booksB_yes.2 w.1)]
  · unfold postR; rw [a, e, booksB_yes.2 w.1]; rfl

end Go.Proofs.Ytlackjldopeigaa
