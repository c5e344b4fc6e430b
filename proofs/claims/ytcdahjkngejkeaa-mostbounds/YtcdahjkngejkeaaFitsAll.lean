/-
  Texts of this seat in one: FitsSpec, FitsMv, FitsMay, FitsMoved, FitsLack, BkFlat, FitsOver, IntRow, FitsWho, FitsMoves, FitsAsk.
-/
import Derived.Test.YtcdahjkngejkeaaLimTwo
import Derived.Test.YtcdahjkngejkeaaLimOne
import Derived.Test.YtcdahjkngejkeaaRowBase
import Derived.Deep.MidRow
import Derived.Deep.WholeRow

/-
  fits: whether payments may be settled at once, as plain lists.
-/
namespace Go.Proofs.Ytcdahjkngejkeaa
open Go.RowKit
set_option linter.unusedVariables false
set_option linter.unusedSimpArgs false

/-- May there be such a payment among n parties? -/
def mayB (n : Nat) (p : P7) : Bool := decide (0 ≤ p.fr ∧ p.fr < n) && (decide (0 ≤ p.to ∧ p.to < n) && (p.fr != p.to && (decide (1 ≤ p.am ∧ p.am ≤ 1099511627776) && decide (1 ≤ p.cl ∧ p.cl ≤ 3))))
theorem mayB_yes {n : Nat} {p : P7} : mayB n p = true ↔ (0 ≤ p.fr ∧ p.fr < n) ∧ (0 ≤ p.to ∧ p.to < n) ∧ ¬ p.fr = p.to ∧ (1 ≤ p.am ∧ p.am ≤ 1099511627776) ∧ (1 ≤ p.cl ∧ p.cl ≤ 3) := by simp [mayB]
/-- A sum over payments. -/
def sumS (g : P7 → Int) : List P7 → Int
  | [] => 0
  | p :: l => g p + sumS g l
theorem sumS_append (g : P7 → Int) (A B : List P7) : sumS g (A ++ B) = sumS g A + sumS g B := by
  induction A with
  | nil => simp [sumS]
  | cons x l ih => simp only [List.cons_append, sumS, ih]; omega
theorem sumS_snoc (g : P7 → Int) (A : List P7) (p : P7) : sumS g (A ++ [p]) = sumS g A + g p := by rw [sumS_append]; simp [sumS]
theorem sumS_perm (g : P7 → Int) {A B : List P7} (h : A.Perm B) : sumS g A = sumS g B := by
  induction h with
  | nil => rfl
  | cons x _ ih => simp only [sumS, ih]
  | swap x y l => simp only [sumS]; omega
  | trans _ _ h1 h2 => exact h1.trans h2
theorem sumS_nonneg (g : P7 → Int) (A : List P7) (h : ∀ p ∈ A, 0 ≤ g p) : 0 ≤ sumS g A := by
  induction A with
  | nil => exact Int.le_refl _
  | cons x l ih =>
    have h1 := h x (by simp)
    have h2 := ih fun p hp => h p (by simp [hp])
    simp only [sumS]
    omega
theorem sumS_bound (g : P7 → Int) (A : List P7) (M : Int) (h : ∀ p ∈ A, 0 ≤ g p ∧ g p ≤ M) : 0 ≤ sumS g A ∧ sumS g A ≤ A.length * M := by
  induction A with
  | nil => simp [sumS]
  | cons x l ih =>
    have h1 := h x (by simp)
    have h2 := ih fun p hp => h p (by simp [hp])
    simp only [sumS, List.length_cons]
    have : ((l.length + 1 : Nat) : Int) * M = l.length * M + M := by rw [Int.natCast_add, Int.add_mul]; simp
    omega
theorem sumS_le (f g : P7 → Int) (A : List P7) (h : ∀ p ∈ A, f p ≤ g p) : sumS f A ≤ sumS g A := by
  induction A with
  | nil => exact Int.le_refl _
  | cons x l ih =>
    have h1 := h x (by simp)
    have h2 := ih fun p hp => h p (by simp [hp])
    simp only [sumS]
    omega
/-- What one sends to another; what it sends of Normal ones; of others. -/
def sentG (i k : Int) (p : P7) : Int := if p.fr = i ∧ p.to = k then p.am else 0
def sentS (l : List P7) (i k : Int) : Int := sumS (sentG i k) l
def plainG (i : Int) (p : P7) : Int := if p.fr = i ∧ p.cl = 3 then p.am else 0
def plainS (l : List P7) (i : Int) : Int := sumS (plainG i) l
def spentG (i : Int) (p : P7) : Int := if p.fr = i ∧ ¬ p.cl = 3 then p.am else 0
def spentS (l : List P7) (i : Int) : Int := sumS (spentG i) l
theorem sentG_bound {M : Int} {i k : Int} {p : P7} (h : 0 ≤ p.am ∧ p.am ≤ M) : 0 ≤ sentG i k p ∧ sentG i k p ≤ M := by unfold sentG; split <;> omega
theorem plainG_bound {M : Int} {i : Int} {p : P7} (h : 0 ≤ p.am ∧ p.am ≤ M) : 0 ≤ plainG i p ∧ plainG i p ≤ M := by unfold plainG; split <;> omega
theorem spentG_bound {M : Int} {i : Int} {p : P7} (h : 0 ≤ p.am ∧ p.am ≤ M) : 0 ≤ spentG i p ∧ spentG i p ≤ M := by unfold spentG; split <;> omega
/-- What it sends to another less what it gets; to the first k. -/
def netS (l : List P7) (i k : Int) : Int := sentS l i k - sentS l k i
def dTo (l : List P7) (i : Int) : Nat → Int
  | 0 => 0
  | k + 1 => dTo l i k + netS l i k
/-- Beyond its limit to k? -/
def overB (b : Bks) (l : List P7) (i k : Nat) : Bool := decide (0 < sentS l i k) && (decide (¬ at2 b.B i k = -1) && decide (at2 b.B i k < at2 b.P i k + netS l i k))
/-- Does it fall short? n: how many parties. -/
def lowB (b : Bks) (l : List P7) (n i : Nat) : Bool :=
  decide ((b.A.getD i a30).1 + (b.A.getD i a30).2.1 - dTo l i n < 0) || (decide (0 < plainS l i) && decide ((b.A.getD i a30).1 + (b.A.getD i a30).2.1 - dTo l i n < keptV (b.A.getD i a30).2.2 (spentS l i)))
def wideB (b : Bks) (l : List P7) (n i : Nat) : Bool := decide (¬ b.M.getD i 0 = -1) && decide (b.M.getD i 0 < netTo b.P i n + dTo l i n)
def shortB (b : Bks) (l : List P7) (n i : Nat) : Bool :=
  decide (¬ plainS l i + spentS l i = 0) && ((List.range n).any (overB b l i) || (lowB b l n i || wideB b l n i))
def shortL (b : Bks) (l : List P7) : List Nat := (List.range b.A.length).filter (shortB b l b.A.length)
/-- May all be, and are there no more than may be? -/
def allB (b : Bks) (l : List P7) : Bool := l.all (mayB b.A.length) && decide (l.length ≤ 64)
def fitsB (b : Bks) (l : List P7) : Bool := allB b l && decide ((shortL b l).length = 0)

/-- In which order they stand does not matter. -/
theorem sentS_perm {l m : List P7} (h : l.Perm m) (i k : Int) : sentS l i k = sentS m i k := sumS_perm _ h
theorem netS_perm {l m : List P7} (h : l.Perm m) (i k : Int) : netS l i k = netS m i k := by unfold netS; rw [sentS_perm h, sentS_perm h]
theorem dTo_perm {l m : List P7} (h : l.Perm m) (i : Int) (n : Nat) : dTo l i n = dTo m i n := by
  induction n with
  | zero => rfl
  | succ n ih => simp only [dTo, ih, netS_perm h]
theorem shortB_perm (b : Bks) {l m : List P7} (h : l.Perm m) (n i : Nat) : shortB b l n i = shortB b m n i := by
  have e : overB b l i = overB b m i := by funext k; unfold overB; rw [sentS_perm h, netS_perm h]
  unfold shortB lowB wideB
  rw [e, dTo_perm h]
  unfold plainS spentS
  rw [sumS_perm _ h, sumS_perm _ h]
theorem shortL_perm (b : Bks) {l m : List P7} (h : l.Perm m) : shortL b l = shortL b m := by
  unfold shortL
  rw [show shortB b l b.A.length = shortB b m b.A.length from funext fun i => shortB_perm b h _ i]

/-- Others send less. -/
structure Fewer (l m : List P7) (i : Int) : Prop where
  sent : ∀ k, sentS m i k = sentS l i k
  gets : ∀ k, sentS m k i ≤ sentS l k i
  plain : plainS m i = plainS l i
  spent : spentS m i = spentS l i
theorem Fewer.refl (l : List P7) (i : Int) : Fewer l l i := ⟨fun _ => rfl, fun _ => Int.le_refl _, rfl, rfl⟩
theorem Fewer.trans {l m o : List P7} {i : Int} (h : Fewer l m i) (k : Fewer m o i) : Fewer l o i :=
  ⟨fun x => (k.sent x).trans (h.sent x), fun x => Int.le_trans (k.gets x) (h.gets x), k.plain.trans h.plain, k.spent.trans h.spent⟩
theorem Fewer.net {l m : List P7} {i : Int} (h : Fewer l m i) (k : Int) : netS l i k ≤ netS m i k := by
  have h1 := h.sent k
  have h2 := h.gets k
  unfold netS
  omega
theorem Fewer.dTo {l m : List P7} {i : Int} (h : Fewer l m i) (n : Nat) : dTo l i n ≤ dTo m i n := by
  induction n with
  | zero => exact Int.le_refl _
  | succ n ih =>
    have := h.net (n : Int)
    simp only [Go.Proofs.Ytcdahjkngejkeaa.dTo]
    omega
/-- Who falls short stays so. -/
theorem Fewer.short {b : Bks} {l m : List P7} {n i : Nat} (h : Fewer l m (i : Int)) (hs : shortB b l n i = true) : shortB b m n i = true := by
  unfold shortB at hs ⊢
  rw [Bool.and_eq_true] at hs ⊢
  obtain ⟨h1, h2⟩ := hs
  refine ⟨by rw [h.plain, h.spent]; exact h1, ?_⟩
  have hd := h.dTo n
  rw [Bool.or_eq_true] at h2 ⊢
  rcases h2 with h2 | h2
  · left
    rw [List.any_eq_true] at h2 ⊢
    obtain ⟨k, hk, ho⟩ := h2
    refine ⟨k, hk, ?_⟩
    unfold overB at ho ⊢
    rw [Bool.and_eq_true, Bool.and_eq_true, decide_eq_true_eq, decide_eq_true_eq, decide_eq_true_eq] at ho ⊢
    have h3 := h.sent (k : Int)
    have h4 := h.net (k : Int)
    exact ⟨by omega, ho.2.1, by omega⟩
  · right
    rw [Bool.or_eq_true] at h2 ⊢
    rcases h2 with h2 | h2
    · left
      unfold lowB at h2 ⊢
      rw [Bool.or_eq_true, Bool.and_eq_true, decide_eq_true_eq, decide_eq_true_eq, decide_eq_true_eq] at h2 ⊢
      rw [h.plain, h.spent]
      rcases h2 with h2 | h2
      · left; omega
      · right; exact ⟨h2.1, by omega⟩
    · right
      unfold wideB at h2 ⊢
      rw [Bool.and_eq_true, decide_eq_true_eq, decide_eq_true_eq] at h2 ⊢
      exact ⟨h2.1, by omega⟩
/-- One that another sends is gone. -/
theorem fewer_rest {l : List P7} {j : Nat} {i : Int} (hj : j < l.length) (hf : ¬ (l.getD j p70).fr = i) (h0 : 0 ≤ (l.getD j p70).am) : Fewer l (qRest l j) i := by
  have e : l = l.take j ++ l.getD j p70 :: l.drop (j + 1) := by
    rw [getD_get hj, List.getElem_cons_drop, List.take_append_drop]
  have s : ∀ g : P7 → Int, sumS g l = sumS g (qRest l j) + g (l.getD j p70) := by
    intro g
    obtain ⟨x, hx⟩ : ∃ x, l.getD j p70 = x := ⟨_, rfl⟩
    rw [hx] at e ⊢
    have e2 : sumS g l = sumS g (l.take j ++ x :: l.drop (j + 1)) := congrArg (sumS g) e
    rw [e2]
    unfold qRest
    rw [sumS_append, sumS_append]
    simp only [sumS]
    omega
  refine ⟨fun k => ?_, fun k => ?_, ?_, ?_⟩
  · have := s (sentG i k)
    unfold sentS
    have z : sentG i k (l.getD j p70) = 0 := by unfold sentG; rw [if_neg (fun h => hf h.1)]
    omega
  · have := s (sentG k i)
    unfold sentS
    have z : 0 ≤ sentG k i (l.getD j p70) := by unfold sentG; split <;> omega
    omega
  · have := s (plainG i)
    unfold plainS
    have z : plainG i (l.getD j p70) = 0 := by unfold plainG; rw [if_neg (fun h => hf h.1)]
    omega
  · have := s (spentG i)
    unfold spentS
    have z : spentG i (l.getD j p70) = 0 := by unfold spentG; rw [if_neg (fun h => hf h.1)]
    omega

/-- The list begun at another place. -/
def turnL (l : List P7) (t : Nat) : List P7 := (List.range l.length).map fun i => l.getD ((i + t) % l.length) p70
theorem turnL_perm (l : List P7) (t : Nat) : (turnL l t).Perm l := by
  by_cases h0 : l.length = 0
  · have : l = [] := List.length_eq_zero_iff.1 h0
    subst this
    exact List.Perm.nil
  · have hs : t % l.length < l.length := Nat.mod_lt _ (by omega)
    have e : turnL l t = l.drop (t % l.length) ++ l.take (t % l.length) := by
      refine ext_getD (by simp [turnL]; omega) fun i hi => ?_
      have hi : i < l.length := by simpa [turnL] using hi
      have e1 : (turnL l t).getD i p70 = l.getD ((i + t) % l.length) p70 := by simp [turnL, List.getD_eq_getElem?_getD, hi]
      rw [e1]
      have hm : (i + t) % l.length = if i + t % l.length < l.length then i + t % l.length else i + t % l.length - l.length := by
        rw [Nat.add_mod, Nat.mod_eq_of_lt hi]
        split
        · rw [Nat.mod_eq_of_lt (by omega)]
        · rw [Nat.mod_eq_sub_mod (by omega), Nat.mod_eq_of_lt (by omega)]
      rw [hm]
      split
      · rename_i h
        rw [getD_left (by simp; omega), getD_drop, Nat.add_comm]
      · rename_i h
        rw [getD_right (by simp; omega), getD_take (by simp; omega)]
        congr 1
        simp
        omega
    rw [e]
    exact (List.perm_append_comm).trans (by rw [List.take_append_drop])

end Go.Proofs.Ytcdahjkngejkeaa

/-
  fits: what payments move, as 42 numbers; what one sends and gets in all.
-/
namespace Go.Proofs.Ytcdahjkngejkeaa
open Go.RowKit
set_option linter.unusedVariables false
set_option linter.unusedSimpArgs false

/-- The cells of numbers. -/
def mvA (z : List Int) : Array Value := (z.map (Value.int .i64)).toArray
theorem mvA_at (z : List Int) (j : Nat) (hj : j < z.length) : (mvA z)[j]? = some (.int .i64 (z.getD j 0)) := by simp [mvA, hj]
theorem mvA_size (z : List Int) : (mvA z).size = z.length := by simp [mvA]
theorem mvA_one (z : List Int) : (mvA z).all (·.oneCell') = true := by
  rw [Array.all_eq_true_iff_forall_mem]
  intro v hv
  simp only [mvA, List.mem_toArray, List.mem_map] at hv
  obtain ⟨n, _, rfl⟩ := hv
  rfl
/-- They lie at g. -/
def MvAt (w : World) (g : Nat) (z : List Int) : Prop := ∀ j, j < 42 → w.cell? ⟨g, j, none⟩ = some (.int .i64 (z.getD j 0))
theorem MvAt.new (w : World) (z : List Int) (hz : z.length = 42) (t : TypeId) (fr : Nat × Nat) : MvAt (w.alloc (.cells (mvA z) t fr)) w.heap.size z := fun j hj => by
  rw [cell_new, mvA_at z j (by omega)]
theorem MvAt.below {w w' : World} {g : Nat} {z : List Int} (h : MvAt w g z) (hb : Below w.heap.size w w') : MvAt w' g z := fun j hj => by
  have h0 := h j hj
  rw [hb.cell (p := ⟨g, j, none⟩) (block_lt_of_cell h0)]; exact h0
theorem MvAt.range {w : World} {g : Nat} {z : List Int} (h : MvAt w g z) (hz : z.length = 42) : w.rangeAt g 0 (z.map (Value.int .i64)) := fun j v hv => by
  have hj : j < 42 := by have := (List.getElem?_eq_some_iff.1 hv).1; simp at this; omega
  rw [Nat.zero_add, h j hj, ← hv]
  simp [hz, hj]
/-- What one sends to all; what it gets of all. -/
def outZ (z : List Int) (i : Nat) : Int := z.getD (i * 6) 0 + z.getD (i * 6 + 1) 0 + z.getD (i * 6 + 2) 0 + z.getD (i * 6 + 3) 0 + z.getD (i * 6 + 4) 0 + z.getD (i * 6 + 5) 0
def colZ (z : List Int) (i : Nat) : Nat → Int
  | 0 => 0
  | k + 1 => colZ z i k + z.getD (k * 6 + i) 0
def inZ (z : List Int) (i : Nat) : Int := colZ z i 6
/-- They may be such. -/
structure MvOk (z : List Int) : Prop where
  len : z.length = 42
  le : ∀ j, 0 ≤ z.getD j 0 ∧ z.getD j 0 ≤ 70368744177664

theorem colZ_range {z : List Int} (h : MvOk z) (i : Nat) : ∀ k, 0 ≤ colZ z i k ∧ colZ z i k ≤ k * 70368744177664 := by
  intro k
  induction k with
  | zero => simp [colZ]
  | succ k ih =>
    have := h.le (k * 6 + i)
    simp only [colZ]
    omega
theorem outZ_range {z : List Int} (h : MvOk z) (i : Nat) : 0 ≤ outZ z i ∧ outZ z i ≤ 422212465065984 := by
  have b0 := h.le (i * 6)
  have b1 := h.le (i * 6 + 1)
  have b2 := h.le (i * 6 + 2)
  have b3 := h.le (i * 6 + 3)
  have b4 := h.le (i * 6 + 4)
  have b5 := h.le (i * 6 + 5)
  unfold outZ
  omega
theorem inZ_range {z : List Int} (h : MvOk z) (i : Nat) : 0 ≤ inZ z i ∧ inZ z i ≤ 422212465065984 := by
  have := colZ_range h i 6
  unfold inZ
  omega
/-- The first n cells are read. -/
theorem MvAt.cells {w : World} {g : Nat} {z : List Int} (h : MvAt w g z) (hz : z.length = 42) (n : Nat) (hn : n ≤ 42) : (loadCellsFrom ⟨g, 0, none⟩ 0 n #[]).run Try.prog w = .ok (mvA (z.take n)) w := by
  have := run_loadCells_list (P := Try.prog) w ⟨g, 0, none⟩ ((z.take n).map (Value.int .i64)) (fun j v hv => by
    have hj : j < n := by have := (List.getElem?_eq_some_iff.1 hv).1; simp at this; omega
    rw [Addr.add_mid, h.range hz j v (by rw [← hv]; simp [List.getElem?_take_of_lt hj])])
  simpa [loadCells, mvA, hz, Nat.min_eq_left hn] using this
theorem rowCells {z : List Int} (hz : z.length = 42) (k : Nat) (hk : k < 6) : (mvA (z.take 36)).extract (k * 6) (k * 6 + 6) = #[.int .i64 (z.getD (k * 6) 0), .int .i64 (z.getD (k * 6 + 1) 0), .int .i64 (z.getD (k * 6 + 2) 0), .int .i64 (z.getD (k * 6 + 3) 0), .int .i64 (z.getD (k * 6 + 4) 0), .int .i64 (z.getD (k * 6 + 5) 0)] := by
  apply Array.ext_getElem?
  intro j
  rw [Array.getElem?_extract, mvA_size]
  simp only [List.length_take, hz]
  by_cases hj : j < 6
  · rw [if_pos (by omega), mvA_at _ _ (by simp [hz]; omega)]
    have e : (z.take 36).getD (k * 6 + j) 0 = z.getD (k * 6 + j) 0 := by
      simp only [List.getD_eq_getElem?_getD]
      rw [List.getElem?_take_of_lt (by omega)]
    rw [e]
    rcases (by omega : j = 0 ∨ j = 1 ∨ j = 2 ∨ j = 3 ∨ j = 4 ∨ j = 5) with rfl | rfl | rfl | rfl | rfl | rfl <;> rfl
  · rw [if_neg (by omega)]
    symm
    rw [Array.getElem?_eq_none_iff]
    simp
    omega
end Go.Proofs.Ytcdahjkngejkeaa

/-
  fits: may a payment be? the program's answer and the document's.
-/
namespace Go.Proofs.Ytcdahjkngejkeaa
open Go.RowKit
set_option linter.unusedVariables false
set_option linter.unusedSimpArgs false

def hasB (n : Nat) (i : Int) : Bool := decide (0 ≤ i ∧ i < n)
theorem hasB_no {n : Nat} {i : Int} (h : i < 0) : false = hasB n i := by unfold hasB; symm; rw [decide_eq_false_iff_not]; omega
theorem hasB_rest {n : Nat} {i : Int} (h : 0 ≤ i) : decide (i < (n : Int)) = hasB n i := by simp [hasB, h]
def classB (c : Int) : Bool := decide (1 ≤ c ∧ c ≤ 3)
theorem classB_rest {c : Int} (h1 : ¬ c = 1) (h2 : ¬ c = 2) : (c == 3) = classB c := by unfold classB; rw [Bool.eq_iff_iff]; simp; omega
theorem classB_low {c : Int} (h : c < 1) : false = classB c := by unfold classB; symm; rw [decide_eq_false_iff_not]; omega
theorem classB_high {c : Int} (h : 1 ≤ c) : decide (c ≤ 3) = classB c := by simp [classB, h]
def sumB (m : Int) : Bool := decide (1 ≤ m ∧ m ≤ 1099511627776)
theorem sumB_no {m : Int} (h : m < 1) : false = sumB m := by unfold sumB; symm; rw [decide_eq_false_iff_not]; omega
theorem sumB_rest {m : Int} (h : 1 ≤ m) : decide (m ≤ 1099511627776) = sumB m := by simp [sumB, h]
theorem mayB_parts (n : Nat) (p : P7) : mayB n p = (hasB n p.fr && (hasB n p.to && (p.fr != p.to && (sumB p.am && classB p.cl)))) := rfl

theorem hasAccount_any (x : BA) (i : Int) (w : World) : Calls Try.prog 42 #[x.val, .int .i64 i] w fun e w' => e = .returned (.bool (hasB x.nA i)) ∧ Below w.heap.size w w' := by
  obtain ⟨aA, nA, cA, aB, nB, cB, aM, nM, cM, aP, nP, cP⟩ := x
  rcases Int.lt_or_le i 0 with h | h
  · go_enter Try.func42, Try.ntmps42
    go_wp2
    go_ret
    exact ⟨rt_bool (hasB_no h), box_below _ _⟩
  · go_enter Try.func42, Try.ntmps42
    go_wp2
    go_ret
    exact ⟨rt_bool (hasB_rest h), box_below _ _⟩

set_option maxHeartbeats 1000000 in
theorem fitsTwo_any (x : BA) (f o : Int) (w : World) : Calls Try.prog 31 #[x.val, .int .i64 f, .int .i64 o] w fun e w' => e = .returned (.bool (hasB x.nA f && (hasB x.nA o && f != o))) ∧ Below w.heap.size w w' := by
  have P1 := hasAccount_any x f
  have P2 := hasAccount_any x o
  generalize hasB x.nA f = q1 at P1 ⊢
  generalize hasB x.nA o = q2 at P2 ⊢
  obtain ⟨aA, nA, cA, aB, nB, cB, aM, nM, cM, aP, nP, cP⟩ := x
  have R0 : Hid (Box4 (w.alloc (.cells #[.slice aA nA cA, .slice aB nB cB, .slice aM nM cM, .slice aP nP cP] 26)) w.heap.size ⟨aA, nA, cA, aB, nB, cB, aM, nM, cM, aP, nP, cP⟩) := Box4.new w ⟨aA, nA, cA, aB, nB, cB, aM, nM, cM, aP, nP, cP⟩ _ _
  go_enter Try.func31, Try.ntmps31
  go_wp2_with fail
  go_at_call 42
  refine (P1 _).mono ?_
  rintro e w1 ⟨rfl, hb⟩
  have B1 : Hid (Below w.heap.size w w1) := (box_below _ _).trans (hb.mono (box_below _ _).size)
  obtain ⟨p0, p1, p2, p3⟩ := R0.out.below hb
  clear hb P1 R0
  cases q1
  · go_wp2
    go_ret
    exact ⟨rfl, B1.out⟩
  go_wp2_with fail
  go_at_call 42
  refine (P2 _).mono ?_
  rintro e w2 ⟨rfl, hb⟩
  have B2 : Hid (Below w.heap.size w w2) := B1.out.trans (hb.mono B1.out.size)
  clear hb P2 p0 p1 p2 p3
  cases q2
  · go_wp2
    go_ret
    exact ⟨rfl, B2.out⟩
  go_wp2
  go_ret
  exact ⟨rt_bool (by simp), B2.out⟩

theorem fitsClass_any (c : Int) (w : World) : Calls Try.prog 32 #[.int .i64 c] w fun e w' => e = .returned (.bool (classB c)) ∧ w' = w := by
  by_cases h1 : c = 1
  · subst h1
    go_enter Try.func32, Try.ntmps32
    go_wp2
    go_ret
    exact ⟨rt_bool rfl, rfl⟩
  by_cases h2 : c = 2
  · subst h2
    go_enter Try.func32, Try.ntmps32
    go_wp2
    go_ret
    exact ⟨rt_bool rfl, rfl⟩
  have HR : Hid ((c == 3) = classB c) := classB_rest h1 h2
  have k1 : (c == 1) = false := by simpa using h1
  have k2 : (c == 2) = false := by simpa using h2
  clear h1 h2
  go_enter Try.func32, Try.ntmps32
  go_wp2
  go_ret
  exact ⟨rt_bool HR.out, rfl⟩

set_option maxHeartbeats 2000000 in
theorem fitsMay_any (x : BA) (p : P7) (w : World) : Calls Try.prog 17 #[x.val, p.val] w fun e w' => e = .returned (.bool (mayB x.nA p)) ∧ Below w.heap.size w w' := by
  rw [mayB_parts]
  have P1 := fitsTwo_any x p.fr p.to
  have P2 := fitsClass_any p.cl
  have HQ : Hid (∃ q, (hasB x.nA p.fr && (hasB x.nA p.to && p.fr != p.to)) = q ∧ (hasB x.nA p.fr && (hasB x.nA p.to && (p.fr != p.to && (sumB p.am && classB p.cl)))) = (q && (sumB p.am && classB p.cl))) := ⟨_, rfl, by rw [Bool.and_assoc, Bool.and_assoc]⟩
  obtain ⟨q1, h1, h2⟩ := HQ.out
  rw [h1] at P1
  rw [h2]
  clear HQ h1 h2
  generalize classB p.cl = q2 at P2 ⊢
  obtain ⟨aA, nA, cA, aB, nB, cB, aM, nM, cM, aP, nP, cP⟩ := x
  obtain ⟨z0, z1, z2, z3, z4, z5, z6⟩ := p
  obtain ⟨w2, hw2⟩ : ∃ w2, w2 = (w.alloc (.cells #[.slice aA nA cA, .slice aB nB cB, .slice aM nM cM, .slice aP nP cP] 26)).alloc (.cells #[.int .i64 z0, .int .i64 z1, .int .i64 z2, .int .i64 z3, .int .i64 z4, .int .i64 z5, .int .i64 z6] 32) := ⟨_, rfl⟩
  have B2 : Hid (Below w.heap.size w w2) := by rw [hw2]; exact (box_below _ _).alloc (box_below _ _).size _
  have Y2 : Hid (At7 w2 (w.heap.size + 1) 0 (z0, z1, z2, z3, z4, z5, z6)) := by
    rw [hw2, ← size_alloc w (.cells #[.slice aA nA cA, .slice aB nB cB, .slice aM nM cM, .slice aP nP cP] 26)]
    exact At7.new _ (z0, z1, z2, z3, z4, z5, z6) _ _
  have P1 := fun q => P1 q
  show Calls Try.prog 17 #[.agg #[.slice aA nA cA, .slice aB nB cB, .slice aM nM cM, .slice aP nP cP], .agg #[.int .i64 z0, .int .i64 z1, .int .i64 z2, .int .i64 z3, .int .i64 z4, .int .i64 z5, .int .i64 z6]] w fun e w' => e = .returned (.bool (q1 && (sumB z3 && q2))) ∧ Below w.heap.size w w'
  go_enter Try.func17, Try.ntmps17
  go_wp2_with fail
  go_at_call 31
  refine (P1 _).mono ?_
  rintro e w3 ⟨rfl, hb⟩
  rw [← hw2] at hb
  have B3 : Hid (Below w.heap.size w w3) := B2.out.trans (hb.mono B2.out.size)
  obtain ⟨_, _, _, c3, c4, _, _⟩ := Y2.out.below hb
  replace c3 : w3.cell? ⟨w.heap.size + 1, 3, none⟩ = some (.int .i64 z3) := c3
  replace c4 : w3.cell? ⟨w.heap.size + 1, 4, none⟩ = some (.int .i64 z4) := c4
  clear hb P1 hw2 Y2 B2
  cases q1
  · go_wp2
    go_ret
    exact ⟨rfl, B3.out⟩
  rcases Int.lt_or_le z3 1 with h | h
  · have HS : Hid (false = sumB z3) := sumB_no h
    go_wp2
    go_ret
    exact ⟨rt_bool (by rw [← HS.out]; simp), B3.out⟩
  · have HS : Hid (decide (z3 ≤ 1099511627776) = sumB z3) := sumB_rest h
    rcases Int.lt_or_le 1099511627776 z3 with h2 | h2
    · have HS : Hid (false = sumB z3) := by show false = sumB z3; rw [← HS.out]; symm; rw [decide_eq_false_iff_not]; omega
      go_wp2
      go_ret
      exact ⟨rt_bool (by rw [← HS.out]; simp), B3.out⟩
    · have HS : Hid (true = sumB z3) := by show true = sumB z3; rw [← HS.out]; symm; rw [decide_eq_true_iff]; omega
      go_wp2_with fail
      go_at_call 32
      refine (P2 _).mono ?_
      rintro e w4 ⟨rfl, hw⟩
      obtain rfl := hw.symm
      go_wp2
      go_ret
      exact ⟨rt_bool (by rw [← HS.out]; simp), B3.out⟩

set_option maxHeartbeats 4000000 in
theorem refFMay_any (x : BA) (p : P7) (w : World) : Calls Try.prog 35 #[x.val, p.val] w fun e w' => e = .returned (.bool (mayB x.nA p)) ∧ Below w.heap.size w w' := by
  rw [mayB_parts]
  obtain ⟨aA, nA, cA, aB, nB, cB, aM, nM, cM, aP, nP, cP⟩ := x
  obtain ⟨z0, z1, z2, z3, z4, z5, z6⟩ := p
  have HB : Hid (Below w.heap.size w ((w.alloc (.cells #[.slice aA nA cA, .slice aB nB cB, .slice aM nM cM, .slice aP nP cP] 26)).alloc (.cells #[.int .i64 z0, .int .i64 z1, .int .i64 z2, .int .i64 z3, .int .i64 z4, .int .i64 z5, .int .i64 z6] 32))) := (box_below _ _).alloc (box_below _ _).size _
  show Calls Try.prog 35 #[.agg #[.slice aA nA cA, .slice aB nB cB, .slice aM nM cM, .slice aP nP cP], .agg #[.int .i64 z0, .int .i64 z1, .int .i64 z2, .int .i64 z3, .int .i64 z4, .int .i64 z5, .int .i64 z6]] w fun e w' => e = .returned (.bool (hasB nA z1 && (hasB nA z2 && (z1 != z2 && (sumB z3 && classB z4))))) ∧ Below w.heap.size w w'
  unfold hasB sumB classB
  rcases Int.lt_or_le z1 0 with h1 | h1
  · go_enter Try.func35, Try.ntmps35
    go_wp2
    go_ret
    exact ⟨rt_bool (by simp; omega), HB.out⟩
  rcases Int.lt_or_le z1 nA with h2 | h2
  case inr =>
    go_enter Try.func35, Try.ntmps35
    go_wp2
    go_ret
    exact ⟨rt_bool (by simp; omega), HB.out⟩
  rcases Int.lt_or_le z2 0 with h3 | h3
  · go_enter Try.func35, Try.ntmps35
    go_wp2
    go_ret
    exact ⟨rt_bool (by simp; omega), HB.out⟩
  rcases Int.lt_or_le z2 nA with h4 | h4
  case inr =>
    go_enter Try.func35, Try.ntmps35
    go_wp2
    go_ret
    exact ⟨rt_bool (by simp; omega), HB.out⟩
  by_cases h5 : z1 = z2
  · subst h5
    go_enter Try.func35, Try.ntmps35
    go_wp2
    go_ret
    exact ⟨rt_bool (by simp), HB.out⟩
  have h5' : (z1 == z2) = false := by simpa using h5
  have H5 : Hid ((z1 != z2) = true) := by show (z1 != z2) = true; simpa using h5
  rw [H5.out]
  have H12 : Hid (decide (0 ≤ z1 ∧ z1 < (nA : Int)) = true ∧ decide (0 ≤ z2 ∧ z2 < (nA : Int)) = true) := ⟨decide_eq_true ⟨h1, h2⟩, decide_eq_true ⟨h3, h4⟩⟩
  rw [H12.out.1, H12.out.2]
  rcases Int.lt_or_le z3 1 with h6 | h6
  · go_enter Try.func35, Try.ntmps35
    go_wp2
    go_ret
    exact ⟨rt_bool (by simp; omega), HB.out⟩
  rcases Int.lt_or_le 1099511627776 z3 with h7 | h7
  · go_enter Try.func35, Try.ntmps35
    go_wp2
    go_ret
    exact ⟨rt_bool (by simp; omega), HB.out⟩
  have H3 : Hid (decide (1 ≤ z3 ∧ z3 ≤ 1099511627776) = true) := decide_eq_true ⟨h6, h7⟩
  rw [H3.out]
  rcases Int.lt_or_le z4 1 with h8 | h8
  · go_enter Try.func35, Try.ntmps35
    go_wp2
    go_ret
    exact ⟨rt_bool (by simp; omega), HB.out⟩
  · go_enter Try.func35, Try.ntmps35
    go_wp2
    go_ret
    exact ⟨rt_bool (by rw [Bool.eq_iff_iff]; simp; omega), HB.out⟩

end Go.Proofs.Ytcdahjkngejkeaa

/-
  fits: what payments move, as 42 numbers: how they come of the payments.
-/
namespace Go.Proofs.Ytcdahjkngejkeaa
open Go.RowKit
set_option linter.unusedVariables false
set_option linter.unusedSimpArgs false

def mvL (L : List P7) : List Int := (List.range 42).map fun j => if j < 36 then sentS L ((j / 6 : Nat) : Int) ((j % 6 : Nat) : Int) else spentS L ((j - 36 : Nat) : Int)
theorem mvL_len (L : List P7) : (mvL L).length = 42 := by simp [mvL]
theorem mvL_at (L : List P7) (j : Nat) (hj : j < 42) : (mvL L).getD j 0 = if j < 36 then sentS L ((j / 6 : Nat) : Int) ((j % 6 : Nat) : Int) else spentS L ((j - 36 : Nat) : Int) := by
  simp only [mvL, List.getD_eq_getElem?_getD, List.getElem?_map, List.getElem?_range hj, Option.map_some, Option.getD_some]
theorem mvL_sent (L : List P7) (i k : Nat) (hi : i < 6) (hk : k < 6) : (mvL L).getD (i * 6 + k) 0 = sentS L i k := by
  rw [mvL_at L _ (by omega), if_pos (by omega), show (i * 6 + k) / 6 = i by omega, show (i * 6 + k) % 6 = k by omega]
theorem mvL_spent (L : List P7) (i : Nat) (hi : i < 6) : (mvL L).getD (36 + i) 0 = spentS L i := by
  rw [mvL_at L _ (by omega), if_neg (by omega), show 36 + i - 36 = i by omega]
theorem mvL_out (L : List P7) (j : Nat) (hj : ¬ j < 42) : (mvL L).getD j 0 = 0 := by
  rw [List.getD_eq_getElem?_getD, List.getElem?_eq_none (by rw [mvL_len]; omega)]; rfl
theorem mvA_nil : mvA (mvL []) = #[.int .i64 0, .int .i64 0, .int .i64 0, .int .i64 0, .int .i64 0, .int .i64 0, .int .i64 0, .int .i64 0, .int .i64 0, .int .i64 0, .int .i64 0, .int .i64 0, .int .i64 0, .int .i64 0, .int .i64 0, .int .i64 0, .int .i64 0, .int .i64 0, .int .i64 0, .int .i64 0, .int .i64 0, .int .i64 0, .int .i64 0, .int .i64 0, .int .i64 0, .int .i64 0, .int .i64 0, .int .i64 0, .int .i64 0, .int .i64 0, .int .i64 0, .int .i64 0, .int .i64 0, .int .i64 0, .int .i64 0, .int .i64 0, .int .i64 0, .int .i64 0, .int .i64 0, .int .i64 0, .int .i64 0, .int .i64 0] := by rfl
/-- Payments whose numbers may be looked up. -/
structure MvPays (L : List P7) : Prop where
  fr : ∀ p ∈ L, 0 ≤ p.fr ∧ p.fr < 6
  to : ∀ p ∈ L, 0 ≤ p.to ∧ p.to < 6
  am : ∀ p ∈ L, 1 ≤ p.am ∧ p.am ≤ 1099511627776
theorem sumS_bnd (f : P7 → Int) (L : List P7) (h : ∀ p ∈ L, 0 ≤ f p ∧ f p ≤ 1099511627776) (hl : L.length ≤ 64) : 0 ≤ sumS f L ∧ sumS f L ≤ 70368744177664 := by
  have := sumS_bound f L 1099511627776 h
  have h2 : (L.length : Int) ≤ 64 := by omega
  have h3 : (L.length : Int) * 1099511627776 ≤ 64 * 1099511627776 := by omega
  omega
theorem MvPays.sent {L : List P7} (h : MvPays L) (hl : L.length ≤ 64) (i k : Int) : 0 ≤ sentS L i k ∧ sentS L i k ≤ 70368744177664 := sumS_bnd _ L (fun p hp => sentG_bound (by have := h.am p hp; omega)) hl
theorem MvPays.spent {L : List P7} (h : MvPays L) (hl : L.length ≤ 64) (i : Int) : 0 ≤ spentS L i ∧ spentS L i ≤ 70368744177664 := sumS_bnd _ L (fun p hp => spentG_bound (by have := h.am p hp; omega)) hl
theorem MvPays.plain {L : List P7} (h : MvPays L) (hl : L.length ≤ 64) (i : Int) : 0 ≤ plainS L i ∧ plainS L i ≤ 70368744177664 := sumS_bnd _ L (fun p hp => plainG_bound (by have := h.am p hp; omega)) hl
theorem MvPays.ok {L : List P7} (h : MvPays L) (hl : L.length ≤ 64) : MvOk (mvL L) := by
  refine ⟨mvL_len L, fun j => ?_⟩
  by_cases hj : j < 42
  · rw [mvL_at L j hj]
    split
    · exact h.sent hl _ _
    · exact h.spent hl _
  · rw [mvL_out L j hj]; omega
theorem MvPays.take {L : List P7} (h : MvPays L) (k : Nat) : MvPays (L.take k) := ⟨fun p hp => h.fr p (List.mem_of_mem_take hp), fun p hp => h.to p (List.mem_of_mem_take hp), fun p hp => h.am p (List.mem_of_mem_take hp)⟩

theorem mvA_set (z : List Int) (j : Nat) (v : Int) : (mvA z).setIfInBounds j (.int .i64 v) = mvA (z.set j v) := by
  unfold mvA
  rw [List.setIfInBounds_toArray, List.map_set]
theorem set_at (z : List Int) (j i : Nat) (v : Int) (h : j < z.length) : (z.set j v).getD i 0 = if i = j then v else z.getD i 0 := by
  simp only [List.getD_eq_getElem?_getD, List.getElem?_set]
  by_cases e : j = i
  · subst e; simp [h]
  · rw [if_neg e, if_neg (fun x => e x.symm)]
theorem mv_ext {y z : List Int} (hy : y.length = 42) (hz : z.length = 42) (h : ∀ j, j < 42 → y.getD j 0 = z.getD j 0) : y = z := by
  refine List.ext_getElem (by omega) fun i h1 h2 => ?_
  have := h i (by omega)
  simpa [h1, h2] using this
/-- One payment more. -/
theorem mvL_plain {L : List P7} {p : P7} {f o : Nat} (hf : p.fr = f) (ho : p.to = o) (h6 : f < 6) (o6 : o < 6) (hc : p.cl = 3) : mvL (L ++ [p]) = (mvL L).set (f * 6 + o) (sentS L f o + p.am) := by
  refine mv_ext (mvL_len _) (by rw [List.length_set]; exact mvL_len _) fun j hj => ?_
  rw [set_at _ _ _ _ (by rw [mvL_len]; omega), mvL_at _ j hj, mvL_at L j hj]
  by_cases h36 : j < 36
  · rw [if_pos h36, if_pos h36]
    unfold sentS
    rw [sumS_snoc]
    unfold sentG
    rw [hf, ho]
    by_cases e : j = f * 6 + o
    · subst e
      rw [show (f * 6 + o) / 6 = f by omega, show (f * 6 + o) % 6 = o by omega]
      simp
    · rw [if_neg e]
      have : ¬ ((f : Int) = ((j / 6 : Nat) : Int) ∧ (o : Int) = ((j % 6 : Nat) : Int)) := by omega
      simp only [this, if_false, Int.add_zero]
  · rw [if_neg h36, if_neg h36, if_neg (by omega)]
    unfold spentS
    rw [sumS_snoc]
    simp [spentG, hc]
theorem mvL_spend {L : List P7} {p : P7} {f o : Nat} (hf : p.fr = f) (ho : p.to = o) (h6 : f < 6) (o6 : o < 6) (hc : ¬ p.cl = 3) : mvL (L ++ [p]) = ((mvL L).set (f * 6 + o) (sentS L f o + p.am)).set (36 + f) (spentS L f + p.am) := by
  refine mv_ext (mvL_len _) (by rw [List.length_set, List.length_set]; exact mvL_len _) fun j hj => ?_
  rw [set_at _ _ _ _ (by rw [List.length_set, mvL_len]; omega), set_at _ _ _ _ (by rw [mvL_len]; omega), mvL_at _ j hj, mvL_at L j hj]
  by_cases h36 : j < 36
  · rw [if_pos h36, if_pos h36, if_neg (by omega)]
    unfold sentS
    rw [sumS_snoc]
    unfold sentG
    rw [hf, ho]
    by_cases e : j = f * 6 + o
    · subst e
      rw [show (f * 6 + o) / 6 = f by omega, show (f * 6 + o) % 6 = o by omega]
      simp
    · rw [if_neg e]
      have : ¬ ((f : Int) = ((j / 6 : Nat) : Int) ∧ (o : Int) = ((j % 6 : Nat) : Int)) := by omega
      simp only [this, if_false, Int.add_zero]
  · rw [if_neg h36, if_neg h36]
    unfold spentS
    rw [sumS_snoc]
    unfold spentG
    rw [hf]
    by_cases e : j = 36 + f
    · subst e
      rw [show 36 + f - 36 = f by omega]
      simp [hc]
    · rw [if_neg e, if_neg (show ¬ j = f * 6 + o by omega)]
      have : ¬ ((f : Int) = ((j - 36 : Nat) : Int) ∧ ¬ p.cl = 3) := by omega
      simp only [this, if_false, Int.add_zero]

end Go.Proofs.Ytcdahjkngejkeaa

/-
  fits: what is left on an account; is it above a limit?
-/
namespace Go.Proofs.Ytcdahjkngejkeaa
open Go.RowKit
set_option linter.unusedVariables false
set_option linter.unusedSimpArgs false

/-- Is too little left? -/
def lackZ (b c r : Int) (z : List Int) (i : Nat) : Bool :=
  if z.getD (36 + i) 0 < outZ z i then decide (b + c + inZ z i - outZ z i < keptV r (z.getD (36 + i) 0)) else decide (b + c + inZ z i - outZ z i < 0)
def aboveB (p m : Int) : Bool := decide (¬ m = -1) && decide (m < p)



end Go.Proofs.Ytcdahjkngejkeaa

/-
  Books that are such, cell by cell.
-/
namespace Go.Proofs.Ytcdahjkngejkeaa
open Go.RowKit
set_option linter.unusedVariables false
set_option linter.unusedSimpArgs false

structure Flat (w : World) (b : Bks) (n bA oA bB oB bM oM bP oP : Nat) : Prop where
  acc : ∀ i, i < n → w.cell? ⟨bA, oA + i * 3, none⟩ = some (.int .i64 (b.A.getD i a30).1) ∧ w.cell? ⟨bA, oA + i * 3 + 1, none⟩ = some (.int .i64 (b.A.getD i a30).2.1) ∧ w.cell? ⟨bA, oA + i * 3 + 2, none⟩ = some (.int .i64 (b.A.getD i a30).2.2)
  bil : Sq w bB oB n b.B
  mul : ∀ i, i < n → w.cell? ⟨bM, oM + i, none⟩ = some (.int .i64 (b.M.getD i 0))
  pos : Sq w bP oP n b.P
theorem Flat.below {w w' : World} {b : Bks} {n bA oA bB oB bM oM bP oP : Nat} (h : Flat w b n bA oA bB oB bM oM bP oP) (k : Below w.heap.size w w') : Flat w' b n bA oA bB oB bM oM bP oP := by
  refine ⟨fun i hi => ?_, h.bil.below k, fun i hi => ?_, h.pos.below k⟩
  · obtain ⟨c0, c1, c2⟩ := h.acc i hi
    have hl := block_lt_of_cell c0
    exact ⟨(k.cell (p := ⟨bA, oA + i * 3, none⟩) hl).trans c0, (k.cell (p := ⟨bA, oA + i * 3 + 1, none⟩) hl).trans c1, (k.cell (p := ⟨bA, oA + i * 3 + 2, none⟩) hl).trans c2⟩
  · have c := h.mul i hi
    exact (k.cell (p := ⟨bM, oM + i, none⟩) (block_lt_of_cell c)).trans c
theorem Bk.flat {w : World} {x : BA} {b : Bks} (h : Bk w x b) (g : Good b) : ∃ n cA cB cM cP bA oA bB oB bM oM bP oP : Nat,
    x = ⟨some ⟨bA, oA, none⟩, n, cA, some ⟨bB, oB, none⟩, n, cB, some ⟨bM, oM, none⟩, n, cM, some ⟨bP, oP, none⟩, n, cP⟩ ∧ n = b.A.length ∧ Flat w b n bA oA bB oB bM oM bP oP := by
  obtain ⟨aA, nA, cA, aB, nB, cB, aM, nM, cM, aP, nP, cP⟩ := x
  have n1 := g.n1
  obtain ⟨bB, oB, hB, eB, SB⟩ := RowsI.sq h.bil (by omega : 0 < b.A.length) (squareB_yes.2 ⟨g.bil, g.bils⟩)
  obtain ⟨bP, oP, hP, eP, SP⟩ := RowsI.sq h.pos (by omega : 0 < b.A.length) (squareB_yes.2 ⟨g.pos, g.poss⟩)
  have hB : aB = some ⟨bB, oB, none⟩ := hB
  have eB : nB = b.A.length := eB
  have hP : aP = some ⟨bP, oP, none⟩ := hP
  have eP : nP = b.A.length := eP
  have eA : nA = b.A.length := h.acc.1
  have eM : nM = b.M.length := h.mul.1
  have gm := g.mul
  obtain ⟨bA, oA, hA, CA⟩ : ∃ bA oA, aA = some ⟨bA, oA, none⟩ ∧ ∀ i, i < b.A.length → w.cell? ⟨bA, oA + i * 3, none⟩ = some (.int .i64 (b.A.getD i a30).1) ∧ w.cell? ⟨bA, oA + i * 3 + 1, none⟩ = some (.int .i64 (b.A.getD i a30).2.1) ∧ w.cell? ⟨bA, oA + i * 3 + 2, none⟩ = some (.int .i64 (b.A.getD i a30).2.2) := by
    rcases h.acc.2 with h1 | ⟨b1, o1, h1, h2⟩
    · rw [h1] at n1; simp at n1
    · exact ⟨b1, o1, h1, h2⟩
  obtain ⟨bM, oM, hM, CM⟩ : ∃ bM oM, aM = some ⟨bM, oM, none⟩ ∧ ∀ i, i < b.M.length → w.cell? ⟨bM, oM + i, none⟩ = some (.int .i64 (b.M.getD i 0)) := by
    rcases h.mul.2.2 with h1 | ⟨b1, o1, h1, h2⟩
    · rw [h1] at gm; simp at gm; omega
    · exact ⟨b1, o1, h1, h2⟩
  refine ⟨b.A.length, cA, cB, cM, cP, bA, oA, bB, oB, bM, oM, bP, oP, ?_, rfl, ⟨CA, SB, fun i hi => CM i (by omega), SP⟩⟩
  rw [hA, hB, hM, hP, eA, eB, eM, eP, gm]

end Go.Proofs.Ytcdahjkngejkeaa

/-
  fits: is a limit passed?
-/
namespace Go.Proofs.Ytcdahjkngejkeaa
open Go.RowKit
set_option linter.unusedVariables false
set_option linter.unusedSimpArgs false

/-- Is its limit to j passed? that to all? n: how many parties. -/
def passZ (b : Bks) (z : List Int) (i j : Nat) : Bool := decide (0 < z.getD (i * 6 + j) 0) && aboveB (at2 b.P i j + z.getD (i * 6 + j) 0 - z.getD (j * 6 + i) 0) (at2 b.B i j)
def overZ (b : Bks) (z : List Int) (n i : Nat) : Bool := (List.range 6).any (passZ b z i) || aboveB (netTo b.P i n + outZ z i - inZ z i) (b.M.getD i 0)
theorem overZ_yes {b : Bks} {z : List Int} {n i j : Nat} (hj : j < 6) (h : passZ b z i j = true) : true = overZ b z n i := by
  unfold overZ
  rw [show (List.range 6).any (passZ b z i) = true from List.any_eq_true.2 ⟨j, List.mem_range.2 hj, h⟩]
  rfl
theorem overZ_no {b : Bks} {z : List Int} {n i : Nat} (h : ∀ j, j < 6 → passZ b z i j = false) : aboveB (netTo b.P i n + outZ z i - inZ z i) (b.M.getD i 0) = overZ b z n i := by
  unfold overZ
  rw [show (List.range 6).any (passZ b z i) = false from by
    rw [Bool.eq_false_iff]
    intro ha
    obtain ⟨j, hj, hp⟩ := List.any_eq_true.1 ha
    rw [h j (List.mem_range.1 hj)] at hp
    exact Bool.noConfusion hp]
  rfl


end Go.Proofs.Ytcdahjkngejkeaa

/-
  Rows of ints that a call makes.
-/
namespace Go.Proofs.Ytcdahjkngejkeaa
open Go.RowKit
set_option linter.unusedVariables false
set_option linter.unusedSimpArgs false

/-- Numbers as ints; their cells. -/
def intsL (l : List Nat) : List Int := l.map fun i : Nat => (i : Int)
def intsV (l : List Nat) : List Value := (intsL l).map (Value.int .i64)
theorem intsL_len (l : List Nat) : (intsL l).length = l.length := by simp [intsL]
theorem intsL_at {l : List Nat} {i : Nat} (h : i < l.length) : (intsL l).getD i 0 = (l.getD i 0 : Nat) := by simp [intsL, h]
theorem intsL_wf {l : List Nat} (h : ∀ i ∈ l, i ≤ 1000000) : ∀ n ∈ intsL l, IntKind.i64.wrap n = n := by
  intro n hn
  simp only [intsL, List.mem_map] at hn
  obtain ⟨i, hi, rfl⟩ := hn
  have := h i hi
  exact i64_wf (by omega) (by omega)
/-- A row of ints in full. -/
structure IGood (w : World) (a : Option Addr) (n c : Nat) (l : List Nat) : Prop where
  sl : Sl .i64 w a n (intsL l)
  len : n = l.length
  cap : n ≤ c
  max : c ≤ 9223372036854775807
  nil0 : a = none → c = 0
theorem IGood.below {w w' : World} {a : Option Addr} {n c : Nat} {l : List Nat} (h : IGood w a n c l) (k : Below w.heap.size w w') : IGood w' a n c l := ⟨h.sl.below k, h.len, h.cap, h.max, h.nil0⟩
/-- What a call answers that makes such a row. -/
def IEnd (w : World) (l : List Nat) (e : Ending) (w' : World) : Prop := ∃ a c, e = .returned (.slice a l.length c) ∧ IGood w' a l.length c l ∧ Below w.heap.size w w'
theorem IGood.own {w : World} {B : Nat} {v : Value} {n : Nat} {l : List Nat} (h : w.ownsRow B 3 1 v n (intsV l)) (hl : ∀ i ∈ l, i ≤ 1000000) : ∃ a c, v = .slice a l.length c ∧ IGood w a l.length c l := by
  obtain ⟨a, c, hv, hs, hn⟩ := Sl.own h (intsL_wf hl)
  rw [intsL_len] at hv hs
  subst hv
  obtain ⟨h1, h2⟩ := own_cap h
  exact ⟨a, c, rfl, hs, rfl, h1, h2, hn⟩
theorem intsV_append (l m : List Nat) : intsV (l ++ m) = intsV l ++ intsV m := by simp [intsV, intsL]

/-- One more, behind a row of the call's own. -/
theorem append_one {w : World} {ops : Array Oper} {rest : List Oper} {o : Oper} {a : Act} {Q : Exit → Act → World → Prop} (hgd : o.guard = none) (s x : Operand)
    (ho : o.op = .call { callee := .builtin .append, args := #[s, x], argTypes := #[47, 47] })
    (base : Nat) (v : Value) (n : Nat) (l : List Nat) (hs : a.eval s = v) (hown : w.ownsRow base 3 1 v n (intsV l)) (k : Nat) (hk : k ≤ 1000000) (hn : n ≤ 1000000) (hb : base ≤ w.heap.size)
    (hx : a.eval x = .slice (some ⟨w.heap.size, 0, none⟩) 1 1)
    (h : ∀ v' w', w'.ownsRow base 3 1 v' (n + 1) (intsV (l ++ [k])) → (w.alloc (.cells #[.int .i64 k] 3)).grownBy w' v.ownBlock → wpList Try.prog ops Q rest (a.put o.dst v') w') :
    wpList Try.prog ops Q (o :: rest) a (w.alloc (.cells #[.int .i64 k] 3)) := by
  obtain ⟨i, hi, hz⟩ : ∃ i, Try.prog.info? 3 = some i ∧ (i.zero, i.size, i.bytes) = (some (Value.int .i64 0), 1, 8) := by
    have h2 : (Try.prog.info? 3).map (fun i => (i.zero, i.size, i.bytes)) = some (some (Value.int .i64 0), 1, 8) := by kernel_rfl
    cases hq : Try.prog.info? 3 with
    | none => simp [hq] at h2
    | some i => exact ⟨i, rfl, by simpa [hq] using h2⟩
  simp only [Prod.mk.injEq] at hz
  obtain ⟨hz0, hz1, hz2⟩ := hz
  have hS : Sl .i64 (w.alloc (.cells #[.int .i64 k] 3)) (some ⟨w.heap.size, 0, none⟩) 1 [(k : Int)] := by
    refine ⟨rfl, fun n hn => ?_, .inr ⟨_, _, rfl, fun i hi => ?_⟩⟩
    · obtain rfl := List.mem_singleton.1 hn
      exact i64_wf (by omega) (by omega)
    · have hi0 : i = 0 := by simp at hi; exact hi
      subst hi0
      rw [cell_new]; rfl
  refine wpList_append_sl hgd s x 47 ho base 3 i (.int .i64 0) 8 Try.underlying47 hi hz0 hz1 hz2 rfl v n (intsV l) hs (own_below hown (box_below _ _)) .i64 (some ⟨w.heap.size, 0, none⟩) 1 1 [(k : Int)] hx hS (fun h => by simp at h) (by unfold maxLen; omega) (by omega) (by rw [size_alloc]; omega) ?_
  intro v' w' h1 h2 _
  refine h v' w' ?_ h2
  rw [intsV_append]
  exact h1

end Go.Proofs.Ytcdahjkngejkeaa

/-
  fits: who falls short.
-/
namespace Go.Proofs.Ytcdahjkngejkeaa
open Go.RowKit
set_option linter.unusedVariables false
set_option linter.unusedSimpArgs false

def shortZ (b : Bks) (z : List Int) (n i : Nat) : Bool := decide (0 < outZ z i) && (lackZ (b.A.getD i a30).1 (b.A.getD i a30).2.1 (b.A.getD i a30).2.2 z i || overZ b z n i)
def whoZ (b : Bks) (z : List Int) (n k : Nat) : List Nat := (List.range k).filter (shortZ b z n)
theorem whoZ_zero (b : Bks) (z : List Int) (n : Nat) : whoZ b z n 0 = [] := rfl
theorem whoZ_yes {b : Bks} {z : List Int} {n k : Nat} (h : shortZ b z n k = true) : whoZ b z n (k + 1) = whoZ b z n k ++ [k] := by
  unfold whoZ
  rw [List.range_succ, List.filter_append]
  simp [h]
theorem whoZ_no {b : Bks} {z : List Int} {n k : Nat} (h : shortZ b z n k = false) : whoZ b z n (k + 1) = whoZ b z n k := by
  unfold whoZ
  rw [List.range_succ, List.filter_append]
  simp [h]
theorem whoZ_len (b : Bks) (z : List Int) (n k : Nat) : (whoZ b z n k).length ≤ k := by
  have := List.length_filter_le (shortZ b z n) (List.range k)
  simpa [whoZ] using this
theorem whoZ_lt {b : Bks} {z : List Int} {n k : Nat} : ∀ i ∈ whoZ b z n k, i < k := by
  intro i hi
  simp [whoZ] at hi
  exact hi.1


end Go.Proofs.Ytcdahjkngejkeaa

/-
  fits: what payments move: the program's answer.
-/
namespace Go.Proofs.Ytcdahjkngejkeaa
open Go.RowKit
set_option linter.unusedVariables false
set_option linter.unusedSimpArgs false


end Go.Proofs.Ytcdahjkngejkeaa

/-
  fits: Short, Fits: the program's answer.
-/
namespace Go.Proofs.Ytcdahjkngejkeaa
open Go.RowKit
set_option linter.unusedVariables false
set_option linter.unusedSimpArgs false

theorem allB_mv {b : Bks} (g : Good b) {L : List P7} (h : allB b L = true) : L.length ≤ 64 ∧ MvPays L ∧ ∀ p ∈ L, mayB b.A.length p = true := by
  unfold allB at h
  rw [Bool.and_eq_true, decide_eq_true_eq, List.all_eq_true] at h
  have n6 := g.n6
  refine ⟨h.2, ⟨fun p hp => ?_, fun p hp => ?_, fun p hp => ?_⟩, h.1⟩
  · have := (mayB_yes.1 (h.1 p hp)).1; omega
  · have := (mayB_yes.1 (h.1 p hp)).2.1; omega
  · exact (mayB_yes.1 (h.1 p hp)).2.2.2.1
/-- A sum over the first k. -/
def sumN (f : Nat → Int) : Nat → Int
  | 0 => 0
  | k + 1 => sumN f k + f k
theorem sumN_add (f g : Nat → Int) (k : Nat) : sumN (fun j => f j + g j) k = sumN f k + sumN g k := by
  induction k with
  | zero => rfl
  | succ k ih => simp only [sumN, ih]; omega
theorem sumN_zero {f : Nat → Int} {n : Nat} (h : ∀ j, n ≤ j → f j = 0) : ∀ k, sumN f (n + k) = sumN f n := by
  intro k
  induction k with
  | zero => rfl
  | succ k ih => rw [← Nat.add_assoc]; simp only [sumN, ih, h (n + k) (by omega)]; omega
theorem sumN_one (f : Nat → Int) (v : Int) (o : Nat) (h : ∀ j, f j = if j = o then v else 0) : ∀ k, sumN f k = if o < k then v else 0 := by
  intro k
  induction k with
  | zero => simp [sumN]
  | succ k ih =>
    simp only [sumN, ih, h k]
    by_cases e : k = o
    · subst e; rw [if_neg (by omega), if_pos rfl, if_pos (by omega)]; omega
    · rw [if_neg e]
      by_cases e2 : o < k
      · rw [if_pos e2, if_pos (by omega)]; omega
      · rw [if_neg e2, if_neg (by omega)]; omega
/-- What one sends to all is what it sends of Normal ones and of others. -/
theorem sent_sum {L : List P7} (h : MvPays L) (i : Int) : sumN (fun j => sentS L i (j : Nat)) 6 = plainS L i + spentS L i := by
  induction L with
  | nil => rfl
  | cons p L ih =>
    have ih := ih ⟨fun q hq => h.fr q (by simp [hq]), fun q hq => h.to q (by simp [hq]), fun q hq => h.am q (by simp [hq])⟩
    have ht := h.to p (by simp)
    unfold sentS plainS spentS at ih ⊢
    simp only [sumS]
    rw [sumN_add, ih]
    have e : sumN (fun j => sentG i (j : Nat) p) 6 = if p.fr = i then p.am else 0 := by
      rw [sumN_one _ (if p.fr = i then p.am else 0) p.to.toNat (fun j => ?_)]
      · rw [if_pos (by omega)]
      · unfold sentG
        by_cases e1 : p.fr = i
        · by_cases e2 : j = p.to.toNat
          · rw [if_pos ⟨e1, by omega⟩, if_pos e2, if_pos e1]
          · rw [if_neg (by omega), if_neg e2]
        · rw [if_neg (fun x => e1 x.1), if_neg e1]
          split <;> rfl
    rw [e]
    unfold plainG spentG
    by_cases e1 : p.fr = i
    · by_cases e2 : p.cl = 3
      · rw [if_pos e1, if_pos ⟨e1, e2⟩, if_neg (fun x => x.2 e2)]; omega
      · rw [if_pos e1, if_neg (fun x => e2 x.2), if_pos ⟨e1, e2⟩]; omega
    · rw [if_neg e1, if_neg (fun x => e1 x.1), if_neg (fun x => e1 x.1)]; omega
theorem outZ_mv {L : List P7} (h : MvPays L) {i : Nat} (hi : i < 6) : outZ (mvL L) i = plainS L i + spentS L i := by
  rw [← sent_sum h i]
  unfold outZ
  have e0 := mvL_sent L i 0 hi (by omega)
  rw [Nat.add_zero] at e0
  rw [e0, mvL_sent L i 1 hi (by omega), mvL_sent L i 2 hi (by omega), mvL_sent L i 3 hi (by omega), mvL_sent L i 4 hi (by omega), mvL_sent L i 5 hi (by omega)]
  simp only [sumN]
  omega
theorem colZ_mv (L : List P7) (i : Nat) (hi : i < 6) : ∀ k, k ≤ 6 → colZ (mvL L) i k = sumN (fun j => sentS L (j : Nat) i) k := by
  intro k
  induction k with
  | zero => intro _; rfl
  | succ k ih => intro hk; simp only [colZ, sumN, ih (by omega), mvL_sent L k i (by omega) hi]
theorem sentS_none {L : List P7} {i k : Int} (h : ∀ p ∈ L, ¬ (p.fr = i ∧ p.to = k)) : sentS L i k = 0 := by
  unfold sentS
  induction L with
  | nil => rfl
  | cons p L ih =>
    simp only [sumS]
    rw [ih fun q hq => h q (by simp [hq])]
    unfold sentG
    rw [if_neg (h p (by simp))]
    omega
theorem sub_inside (a b c d : Int) : a + b - (c + d) = (a - c) + (b - d) := by omega
theorem dTo_eq (L : List P7) (i : Int) (n : Nat) : dTo L i n = sumN (fun j => sentS L i (j : Nat)) n - sumN (fun j => sentS L (j : Nat) i) n := by
  induction n with
  | zero => rfl
  | succ n ih => simp only [dTo, sumN, ih, netS]; omega
theorem sumN_to {b : Bks} {L : List P7} (h : ∀ p ∈ L, mayB b.A.length p = true) (i : Int) (hn : b.A.length ≤ 6) : sumN (fun j => sentS L i (j : Nat)) 6 = sumN (fun j => sentS L i (j : Nat)) b.A.length := by
  have := sumN_zero (f := fun j => sentS L i (j : Nat)) (n := b.A.length) (fun j hj => sentS_none fun p hp hh => by have := (mayB_yes.1 (h p hp)).2.1; omega) (6 - b.A.length)
  rwa [show b.A.length + (6 - b.A.length) = 6 by omega] at this
theorem sumN_fr {b : Bks} {L : List P7} (h : ∀ p ∈ L, mayB b.A.length p = true) (i : Int) (hn : b.A.length ≤ 6) : sumN (fun j => sentS L (j : Nat) i) 6 = sumN (fun j => sentS L (j : Nat) i) b.A.length := by
  have := sumN_zero (f := fun j => sentS L (j : Nat) i) (n := b.A.length) (fun j hj => sentS_none fun p hp hh => by have := (mayB_yes.1 (h p hp)).1; omega) (6 - b.A.length)
  rwa [show b.A.length + (6 - b.A.length) = 6 by omega] at this
/-- The program's answer is the document's. -/
theorem short_eq {b : Bks} (g : Good b) {L : List P7} (hL : allB b L = true) {i : Nat} (hi : i < b.A.length) : shortZ b (mvL L) b.A.length i = shortB b L b.A.length i := by
  obtain ⟨h64, hm, hmay⟩ := allB_mv g hL
  have n6 := g.n6
  have i6 : i < 6 := by omega
  have eo := outZ_mv hm i6
  have e6 := sumN_to hmay i g.n6
  have f6 := sumN_fr hmay i g.n6
  have ss := sent_sum hm i
  have ei : inZ (mvL L) i = sumN (fun j => sentS L (j : Nat) i) b.A.length := by
    unfold inZ
    rw [colZ_mv L i i6 6 (by omega), f6]
  have ed := dTo_eq L i b.A.length
  have hp := hm.plain h64 i
  have hs := hm.spent h64 i
  have ha : acctB (b.A.getD i a30).1 (b.A.getD i a30).2.1 (b.A.getD i a30).2.2 = true := g.acc i hi
  obtain ⟨_, _, _, _, r0, _⟩ := acctB_yes.1 ha
  have hk := keptV_range (r := (b.A.getD i a30).2.2) r0 hs.1
  unfold shortZ shortB
  have E1 : decide (0 < outZ (mvL L) i) = decide (¬ plainS L i + spentS L i = 0) := by rw [eo, decide_eq_decide]; omega
  have E2 : lackZ (b.A.getD i a30).1 (b.A.getD i a30).2.1 (b.A.getD i a30).2.2 (mvL L) i = lowB b L b.A.length i := by
    unfold lackZ lowB
    rw [mvL_spent L i i6, eo, ei]
    by_cases h : spentS L i < plainS L i + spentS L i
    · rw [if_pos h, Bool.eq_iff_iff]
      simp only [Bool.or_eq_true, Bool.and_eq_true, decide_eq_true_eq]
      omega
    · rw [if_neg h, Bool.eq_iff_iff]
      simp only [Bool.or_eq_true, Bool.and_eq_true, decide_eq_true_eq]
      omega
  have E3 : overZ b (mvL L) b.A.length i = ((List.range b.A.length).any (overB b L i) || wideB b L b.A.length i) := by
    unfold overZ
    congr 1
    · rw [Bool.eq_iff_iff, List.any_eq_true, List.any_eq_true]
      have key : ∀ j, j < 6 → passZ b (mvL L) i j = overB b L i j := by
        intro j hj
        unfold passZ overB aboveB netS
        rw [mvL_sent L i j i6 hj, mvL_sent L j i hj i6]
        rw [Int.add_sub_assoc]
      constructor
      · rintro ⟨j, hj, hp⟩
        have hj := List.mem_range.1 hj
        rw [key j hj] at hp
        refine ⟨j, List.mem_range.2 ?_, hp⟩
        rcases Nat.lt_or_ge j b.A.length with h | h
        · exact h
        · unfold overB at hp
          rw [Bool.and_eq_true, decide_eq_true_eq] at hp
          have : sentS L i j = 0 := sentS_none fun p hp hh => by have := (mayB_yes.1 (hmay p hp)).2.1; omega
          omega
      · rintro ⟨j, hj, hp⟩
        have hj := List.mem_range.1 hj
        exact ⟨j, List.mem_range.2 (by omega), by rw [key j (by omega)]; exact hp⟩
    · unfold aboveB wideB
      rw [eo, ei, ed, ← e6, ss, Int.add_sub_assoc]
  rw [E1, E2, E3]
  cases lowB b L b.A.length i <;> simp
theorem who_eq {b : Bks} (g : Good b) {L : List P7} (hL : allB b L = true) : whoZ b (mvL L) b.A.length b.A.length = shortL b L := by
  unfold whoZ shortL
  refine List.filter_congr fun i hi => ?_
  exact short_eq g hL (List.mem_range.1 hi)

/-- A fact: such a row of ints. -/
def Fact.ints (l : List Nat) : Fact := ⟨fun w v => ∃ a c, v = .slice a l.length c ∧ IGood w a l.length c l, fun w w' v hb ⟨a, c, h1, h2⟩ => ⟨a, c, h1, h2.below hb⟩⟩
theorem ints_fact {f : FuncId} {args : Array Value} {w : World} {l : List Nat} (h : Calls Try.prog f args w (IEnd w l)) :
    Calls Try.prog f args w fun e w' => ∃ v, e = .returned v ∧ Below w.heap.size w w' ∧ (Fact.ints l).1 w' v :=
  h.mono fun e w' ⟨a, c, h1, h2, h3⟩ => ⟨_, h1, h3, a, c, rfl, h2⟩



end Go.Proofs.Ytcdahjkngejkeaa
