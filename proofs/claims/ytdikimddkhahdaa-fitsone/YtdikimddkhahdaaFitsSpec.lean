/-
  fits: whether payments may be settled at once, as plain lists.
-/
import Derived.Test.YtdikimddkhahdaaLimTwo
import Derived.Test.YtdikimddkhahdaaLimOne
import Derived.Test.YtdikimddkhahdaaRowBase
namespace Go.Proofs.Ytdikimddkhahdaa
open Go.RowKit
set_option linter.unusedVariables false
set_option linter.unusedSimpArgs false

/-- May there be such a payment among n parties? -/
def mayB (n : Nat) (p : P7) : Bool := decide (0 ≤ p.fr ∧ p.fr < n) && (decide (0 ≤ p.to ∧ p.to < n) && (p.fr != p.to && (decide (1 ≤ p.am ∧ p.am ≤ 1099511627776) && decide (1 ≤ p.cl ∧ p.cl ≤ 3))))
theorem mayB_yes {n : Nat} {p : P7} : mayB n p = true ↔ (0 ≤ p.fr ∧ p.fr < n) ∧ (0 ≤ p.to ∧ p.to < n) ∧ ¬ p.fr = p.to ∧ (1 ≤ p.am ∧ p.am ≤ 1099511627776) ∧ (1 ≤ p.cl ∧ p.cl ≤ 3) := by simp [mayB]
/-- A sum over payments. -/
def sumS (g : P7 → Int) : List P7 → Int
  | [] => 0
  | p :: l => g p + sumS g l
theorem sumS_append (g : P7 → Int) (A B : List P7) : sumS g (A ++ B) = sumS g A + sumS g B := by
  induction A with
  | nil => simp [sumS]
  | cons x l ih => simp only [List.cons_append, sumS, ih]; omega
theorem sumS_snoc (g : P7 → Int) (A : List P7) (p : P7) : sumS g (A ++ [p]) = sumS g A + g p := by rw [sumS_append]; simp [sumS]
theorem sumS_perm (g : P7 → Int) {A B : List P7} (h : A.Perm B) : sumS g A = sumS g B := by
  induction h with
  | nil => rfl
  | cons x _ ih => simp only [sumS, ih]
  | swap x y l => simp only [sumS]; omega
  | trans _ _ h1 h2 => exact h1.trans h2
theorem sumS_nonneg (g : P7 → Int) (A : List P7) (h : ∀ p ∈ A, 0 ≤ g p) : 0 ≤ sumS g A := by
  induction A with
  | nil => exact Int.le_refl _
  | cons x l ih =>
    have h1 := h x (by simp)
    have h2 := ih fun p hp => h p (by simp [hp])
    simp only [sumS]
    omega
theorem sumS_bound (g : P7 → Int) (A : List P7) (M : Int) (h : ∀ p ∈ A, 0 ≤ g p ∧ g p ≤ M) : 0 ≤ sumS g A ∧ sumS g A ≤ A.length * M := by
  induction A with
  | nil => simp [sumS]
  | cons x l ih =>
    have h1 := h x (by simp)
    have h2 := ih fun p hp => h p (by simp [hp])
    simp only [sumS, List.length_cons]
    have : ((l.length + 1 : Nat) : Int) * M = l.length * M + M := by rw [Int.natCast_add, Int.add_mul]; simp
    omega
theorem sumS_le (f g : P7 → Int) (A : List P7) (h : ∀ p ∈ A, f p ≤ g p) : sumS f A ≤ sumS g A := by
  induction A with
  | nil => exact Int.le_refl _
  | cons x l ih =>
    have h1 := h x (by simp)
    have h2 := ih fun p hp => h p (by simp [hp])
    simp only [sumS]
    omega
/-- What one sends to another; what it sends of Normal ones; of others. -/
def sentG (i k : Int) (p : P7) : Int := if p.fr = i ∧ p.to = k then p.am else 0
def sentS (l : List P7) (i k : Int) : Int := sumS (sentG i k) l
def plainG (i : Int) (p : P7) : Int := if p.fr = i ∧ p.cl = 3 then p.am else 0
def plainS (l : List P7) (i : Int) : Int := sumS (plainG i) l
def spentG (i : Int) (p : P7) : Int := if p.fr = i ∧ ¬ p.cl = 3 then p.am else 0
def spentS (l : List P7) (i : Int) : Int := sumS (spentG i) l
theorem sentG_bound {M : Int} {i k : Int} {p : P7} (h : 0 ≤ p.am ∧ p.am ≤ M) : 0 ≤ sentG i k p ∧ sentG i k p ≤ M := by unfold sentG; split <;> omega
theorem plainG_bound {M : Int} {i : Int} {p : P7} (h : 0 ≤ p.am ∧ p.am ≤ M) : 0 ≤ plainG i p ∧ plainG i p ≤ M := by unfold plainG; split <;> omega
theorem spentG_bound {M : Int} {i : Int} {p : P7} (h : 0 ≤ p.am ∧ p.am ≤ M) : 0 ≤ spentG i p ∧ spentG i p ≤ M := by unfold spentG; split <;> omega
/-- What it sends to another less what it gets; to the first k. -/
def netS (l : List P7) (i k : Int) : Int := sentS l i k - sentS l k i
def dTo (l : List P7) (i : Int) : Nat → Int
  | 0 => 0
  | k + 1 => dTo l i k + netS l i k
/-- Beyond its limit to k? -/
def overB (b : Bks) (l : List P7) (i k : Nat) : Bool := decide (0 < sentS l i k) && (decide (¬ at2 b.B i k = -1) && decide (at2 b.B i k < at2 b.P i k + netS l i k))
/-- Does it fall short? n: how many parties. -/
def lowB (b : Bks) (l : List P7) (n i : Nat) : Bool :=
  decide ((b.A.getD i a30).1 + (b.A.getD i a30).2.1 - dTo l i n < 0) || (decide (0 < plainS l i) && decide ((b.A.getD i a30).1 + (b.A.getD i a30).2.1 - dTo l i n < keptV (b.A.getD i a30).2.2 (spentS l i)))
def wideB (b : Bks) (l : List P7) (n i : Nat) : Bool := decide (¬ b.M.getD i 0 = -1) && decide (b.M.getD i 0 < netTo b.P i n + dTo l i n)
def shortB (b : Bks) (l : List P7) (n i : Nat) : Bool :=
  decide (¬ plainS l i + spentS l i = 0) && ((List.range n).any (overB b l i) || (lowB b l n i || wideB b l n i))
def shortL (b : Bks) (l : List P7) : List Nat := (List.range b.A.length).filter (shortB b l b.A.length)
/-- May all be, and are there no more than may be? -/
def allB (b : Bks) (l : List P7) : Bool := l.all (mayB b.A.length) && decide (l.length ≤ 64)
def fitsB (b : Bks) (l : List P7) : Bool := allB b l && decide ((shortL b l).length = 0)

/-- In which order they stand does not matter. -/
theorem sentS_perm {l m : List P7} (h : l.Perm m) (i k : Int) : sentS l i k = sentS m i k := sumS_perm _ h
theorem netS_perm {l m : List P7} (h : l.Perm m) (i k : Int) : netS l i k = netS m i k := by unfold netS; rw [sentS_perm h, sentS_perm h]
theorem dTo_perm {l m : List P7} (h : l.Perm m) (i : Int) (n : Nat) : dTo l i n = dTo m i n := by
  induction n with
  | zero => rfl
  | succ n ih => simp only [dTo, ih, netS_perm h]
theorem shortB_perm (b : Bks) {l m : List P7} (h : l.Perm m) (n i : Nat) : shortB b l n i = shortB b m n i := by
  have e : overB b l i = overB b m i := by funext k; unfold overB; rw [sentS_perm h, netS_perm h]
  unfold shortB lowB wideB
  rw [e, dTo_perm h]
  unfold plainS spentS
  rw [sumS_perm _ h, sumS_perm _ h]
theorem shortL_perm (b : Bks) {l m : List P7} (h : l.Perm m) : shortL b l = shortL b m := by
  unfold shortL
  rw [show shortB b l b.A.length = shortB b m b.A.length from funext fun i => shortB_perm b h _ i]

/-- Others send less. -/
structure Fewer (l m : List P7) (i : Int) : Prop where
  sent : ∀ k, sentS m i k = sentS l i k
  gets : ∀ k, sentS m k i ≤ sentS l k i
  plain : plainS m i = plainS l i
  spent : spentS m i = spentS l i
theorem Fewer.refl (l : List P7) (i : Int) : Fewer l l i := ⟨fun _ => rfl, fun _ => Int.le_refl _, rfl, rfl⟩
theorem Fewer.trans {l m o : List P7} {i : Int} (h : Fewer l m i) (k : Fewer m o i) : Fewer l o i :=
  ⟨fun x => (k.sent x).trans (h.sent x), fun x => Int.le_trans (k.gets x) (h.gets x), k.plain.trans h.plain, k.spent.trans h.spent⟩
theorem Fewer.net {l m : List P7} {i : Int} (h : Fewer l m i) (k : Int) : netS l i k ≤ netS m i k := by
  have h1 := h.sent k
  have h2 := h.gets k
  unfold netS
  omega
theorem Fewer.dTo {l m : List P7} {i : Int} (h : Fewer l m i) (n : Nat) : dTo l i n ≤ dTo m i n := by
  induction n with
  | zero => exact Int.le_refl _
  | succ n ih =>
    have := h.net (n : Int)
    simp only [Go.Proofs.Ytdikimddkhahdaa.dTo]
    omega
/-- Who falls short stays so. -/
theorem Fewer.short {b : Bks} {l m : List P7} {n i : Nat} (h : Fewer l m (i : Int)) (hs : shortB b l n i = true) : shortB b m n i = true := by
  unfold shortB at hs ⊢
  rw [Bool.and_eq_true] at hs ⊢
  obtain ⟨h1, h2⟩ := hs
  refine ⟨by rw [h.plain, h.spent]; exact h1, ?_⟩
  have hd := h.dTo n
  rw [Bool.or_eq_true] at h2 ⊢
  rcases h2 with h2 | h2
  · left
    rw [List.any_eq_true] at h2 ⊢
    obtain ⟨k, hk, ho⟩ := h2
    refine ⟨k, hk, ?_⟩
    unfold overB at ho ⊢
    rw [Bool.and_eq_true, Bool.and_eq_true, decide_eq_true_eq, decide_eq_true_eq, decide_eq_true_eq] at ho ⊢
    have h3 := h.sent (k : Int)
    have h4 := h.net (k : Int)
    exact ⟨by omega, ho.2.1, by omega⟩
  · right
    rw [Bool.or_eq_true] at h2 ⊢
    rcases h2 with h2 | h2
    · left
      unfold lowB at h2 ⊢
      rw [Bool.or_eq_true, Bool.and_eq_true, decide_eq_true_eq, decide_eq_true_eq, decide_eq_true_eq] at h2 ⊢
      rw [h.plain, h.spent]
      rcases h2 with h2 | h2
      · left; omega
      · right; exact ⟨h2.1, by omega⟩
    · right
      unfold wideB at h2 ⊢
      rw [Bool.and_eq_true, decide_eq_true_eq, decide_eq_true_eq] at h2 ⊢
      exact ⟨h2.1, by omega⟩
/-- One that another sends is gone. -/
theorem fewer_rest {l : List P7} {j : Nat} {i : Int} (hj : j < l.length) (hf : ¬ (l.getD j p70).fr = i) (h0 : 0 ≤ (l.getD j p70).am) : Fewer l (qRest l j) i := by
  have e : l = l.take j ++ l.getD j p70 :: l.drop (j + 1) := by
    rw [getD_get hj, List.getElem_cons_drop, List.take_append_drop]
  have s : ∀ g : P7 → Int, sumS g l = sumS g (qRest l j) + g (l.getD j p70) := by
    intro g
    obtain ⟨x, hx⟩ : ∃ x, l.getD j p70 = x := ⟨_, rfl⟩
    rw [hx] at e ⊢
    have e2 : sumS g l = sumS g (l.take j ++ x :: l.drop (j + 1)) := congrArg (sumS g) e
    rw [e2]
    unfold qRest
    rw [sumS_append, sumS_append]
    simp only [sumS]
    omega
  refine ⟨fun k => ?_, fun k => ?_, ?_, ?_⟩
  · have := s (sentG i k)
    unfold sentS
    have z : sentG i k (l.getD j p70) = 0 := by unfold sentG; rw [if_neg (fun h => hf h.1)]
    omega
  · have := s (sentG k i)
    unfold sentS
    have z : 0 ≤ sentG k i (l.getD j p70) := by unfold sentG; split <;> omega
    omega
  · have := s (plainG i)
    unfold plainS
    have z : plainG i (l.getD j p70) = 0 := by unfold plainG; rw [if_neg (fun h => hf h.1)]
    omega
  · have := s (spentG i)
    unfold spentS
    have z : spentG i (l.getD j p70) = 0 := by unfold spentG; rw [if_neg (fun h => hf h.1)]
    omega

/-- The list begun at another place. -/
def turnL (l : List P7) (t : Nat) : List P7 := (List.range l.length).map fun i => l.getD ((i + t) % l.length) p70
theorem turnL_perm (l : List P7) (t : Nat) : (turnL l t).Perm l := by
  by_cases h0 : l.length = 0
  · have : l = [] := List.length_eq_zero_iff.1 h0
    subst this
    exact List.Perm.nil
  · have hs : t % l.length < l.length := Nat.mod_lt _ (by omega)
    have e : turnL l t = l.drop (t % l.length) ++ l.take (t % l.length) := by
      refine ext_getD (by simp [turnL]; omega) fun i hi => ?_
      have hi : i < l.length := by simpa [turnL] using hi
      have e1 : (turnL l t).getD i p70 = l.getD ((i + t) % l.length) p70 := by simp [turnL, List.getD_eq_getElem?_getD, hi]
      rw [e1]
      have hm : (i + t) % l.length = if i + t % l.length < l.length then i + t % l.length else i + t % l.length - l.length := by
        rw [Nat.add_mod, Nat.mod_eq_of_lt hi]
        split
        · rw [Nat.mod_eq_of_lt (by omega)]
        · rw [Nat.mod_eq_sub_mod (by omega), Nat.mod_eq_of_lt (by omega)]
      rw [hm]
      split
      · rename_i h
        rw [getD_left (by simp; omega), getD_drop, Nat.add_comm]
      · rename_i h
        rw [getD_right (by simp; omega), getD_take (by simp; omega)]
        congr 1
        simp
        omega
    rw [e]
    exact (List.perm_append_comm).trans (by rw [List.take_append_drop])

end Go.Proofs.Ytdikimddkhahdaa
